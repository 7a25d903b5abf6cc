/-
  Several texts in one file, in their order:
  - message's bit; strconv.FormatUint at base 16. Condition: the library's table of zeros reads as the program's text lays it.
  - Messages in plain data: the map's bits, the rows of fields, what is written is read, in one way. No conditions; nothing of the program.
  - message's bit, bitsText and mapTexts. Conditions: the library's tables read as the program's text lays them; the fields' numbers are such as there are.
  - message's check and Check. Conditions: the tables and the errors read as the program's text lays them.
  - Numerals of one length stand in the order of their numbers. No conditions.
  - field's Digits for every number. Conditions: the rows and the library's table of powers read as the program's text lays them.
  - Messages in plain data: what is written is read, in one way; what is cut is none; what one dialect writes no other one reads. No conditions; nothing of the program.
  - message's typeForm, mapForm and putHead. Conditions: the tables and the errors read as the program's text lays them.
  - strings.TrimPrefix and CutPrefix at any strings. Conditions: strings of at most 2^62 bytes.
  - Messages in plain data: Decode behind Encode, Encode behind Decode, cut messages, other dialects. No conditions; nothing of the program.
  - message's encode and Encode, Check. Conditions: the tables and the errors read as the program's text lays them.
  - message's Encode, Check and Form. Conditions: the tables and the errors read as the program's text lays them.
  - message's (*reader).take. Conditions: the tables and the errors read as the program's text lays them.
  - strconv.ParseUint at base 16, of sixteen hexadecimal digits. Conditions: the text has sixteen of the digits 0 to 9, a to f.
  - The laying of a contract of the library (math/bits.LeadingZeros64) at this program, in plain words. No conditions.
  - message's numbers: the numbers of a half's fields. Conditions: a half has 64 bits; the numbers are small.
  - message's takeType and takeBits. Conditions: the tables and the errors read as the program's text lays them.
-/
import Derived.Test.YticofobhkmabiaaGreatDoorJa1
import Derived.Lib.ItoaMem
import Derived.Lib.AppendIntMem
import Derived.Lib.SmallJoins
import Derived.Lib.LaidTab
import Derived.Lib.ConvBytes
import Derived.Shelf.Small.Bits
import Derived.Test.YticofobhkmabiaaGreatDoorProg
import Derived.Lib.BitFns
namespace Go.Proofs.YticofobhkmabiaaGreatDoor
open Go.RowKit
open Fdd
set_option linter.unusedVariables false
set_option linter.unusedSimpArgs false
theorem hexk_cons : ∀ (k n : Nat), hexk (k + 1) n = hexs.getD (n / 16 ^ k % 16) 0 :: hexk k n
  | 0, n => by simp [hexk]
  | k + 1, n => by
    rw [hexk, hexk_cons k (n / 16), Nat.div_div_eq_div_mul, Nat.mul_comm 16, ← Nat.pow_succ]
    rfl
def ZerT (W : World) : Prop := W.cell? ⟨20, 15, none⟩ = some (.int .u8 4)
theorem ZerT.turn {W W' : World} (h : ZerT W) (ht : Turn nowhere W W') : ZerT W' := (ht.cell (World.block_lt_of_cell? _ _ h) (fun e => e)).trans h
set_option maxRecDepth 20000 in
theorem zeros64 {w : World} (hz : ZerT w) : Calls Tryz.prog 167 #[.int .u64 16] w fun e w' => e = .returned (.int .i64 4) ∧ w' = w := by
  unfold ZerT at hz
  go_enter Tryz.func167, Tryz.ntmps167
  go_upto_region 3 with fail
  refine wp_region_lit ?_
  refine wR (v := .int .u64 16) rfl (exec_move rfl rfl) ?_
  simp only [Act.put, zzA, zz0, zz1]
  refine wR (v := .int .u64 16) rfl (exec_move rfl rfl) ?_
  simp only [Act.put, zzA, zz0, zz1]
  refine wR (v := .int .u64 18446744073709551600) (w' := w) rfl (by kernel_rfl) ?_
  simp only [Act.put, zzA, zz0, zz1]
  refine wR (v := .int .u64 16) (w' := w) rfl (by kernel_rfl) ?_
  simp only [Act.put, zzA, zz0, zz1]
  refine wR (v := .int .u64 4573923408821661840) (w' := w) rfl (by kernel_rfl) ?_
  simp only [Act.put, zzA, zz0, zz1]
  refine wR (v := .int .u64 15) (w' := w) rfl (by kernel_rfl) ?_
  simp only [Act.put, zzA, zz0, zz1]
  refine wR (v := .pointer (some ⟨20, 15, none⟩)) rfl (gx_aaddr (i := 15) (off := 0) (sz := 1) rfl rfl rfl Tryz.underlying247 (by kernel_rfl) (by omega) (by omega)) ?_
  simp only [Act.put, zzA, zz0, zz1]
  refine wR (v := .int .u8 4) rfl (exec_load1 rfl rfl (by kernel_rfl) hz) ?_
  simp only [Act.put, zzA, zz0, zz1]
  refine wR (v := .int .i64 4) (w' := w) rfl (by kernel_rfl) ?_
  simp only [Act.put, zzA, zz0, zz1]
  refine wR (v := .int .i64 4) rfl (gx_assign rfl rfl) ?_
  simp only [Act.put, zzA, zz0, zz1]
  clear hz
  go_wp2_with fail
  go_ret
  exact ⟨rfl, rfl⟩
set_option maxRecDepth 20000 in
theorem zeros_walk {w : World} (hz : ZerT w) : Calls Tryz.prog 162 #[.int .u64 16] w fun e w' => e = .returned (.int .i64 4) ∧ w' = w := by
  have HZ := Lib.hid hz
  clear hz
  go_enter Tryz.func162, Tryz.ntmps162
  go_wp2_with (go_at_call 167; refine (zeros64 HZ.out).mono ?_; rintro e w' ⟨rfl, rfl⟩)
  go_ret
  exact ⟨rfl, rfl⟩
set_option maxRecDepth 20000 in
theorem two_walk {w : World} : Calls Tryz.prog 161 #[.int .i64 16] w fun e w' => e = .returned (.bool true) ∧ w' = w := by
  go_enter Tryz.func161, Tryz.ntmps161
  go_upto_region 1 with fail
  refine wp_region_lit ?_
  refine wR (v := .int .i64 16) rfl (exec_move rfl rfl) ?_
  simp only [Act.put, zzA, zz0, zz1]
  refine wR (v := .int .i64 16) rfl (exec_move rfl rfl) ?_
  simp only [Act.put, zzA, zz0, zz1]
  refine wR (v := .int .i64 15) (w' := w) rfl (by kernel_rfl) ?_
  simp only [Act.put, zzA, zz0, zz1]
  refine wR (v := .int .i64 0) (w' := w) rfl (by kernel_rfl) ?_
  simp only [Act.put, zzA, zz0, zz1]
  refine wR (v := .bool true) (w' := w) rfl (by kernel_rfl) ?_
  simp only [Act.put, zzA, zz0, zz1]
  refine wR (v := .bool true) rfl (gx_assign rfl rfl) ?_
  simp only [Act.put, zzA, zz0, zz1]
  go_wp2_with fail
  go_ret
  exact ⟨rfl, rfl⟩
theorem gx_aslice {P : Program} {a : Act} {o : Oper} {W : World} {t e : TypeId} {x y : Operand} {b off n i sz m q : Nat} {k : IntKind} (ho : o.op = .slice t x (some y) none none) (hx : a.eval x = .pointer (some ⟨b, off, none⟩)) (hy : a.eval y = .int k (i : Int))
    (ht : P.underlying t = some (.array n e)) (hs : (P.info? e).map (·.size) = some sz) (hi : i < n) (hm : off + i * sz = m) (hq : n - i = q) : (execOp a.eval o).run P W = .ok (.value (.slice (some ⟨b, m, none⟩) q q)) W := by
  obtain ⟨j, hj, hjs⟩ := Option.map_eq_some_iff.1 hs
  subst hm
  subst hq
  unfold execOp
  have h1 : (i : Int) ≤ (n : Int) := by omega
  have h2 : ¬ (n = i) := by omega
  simp [ho, hx, hy, Instr.sliceAt, Instr.sliceBounds, Instr.sliceBound, run_underlying ht, asIntOf, sizeOf, typeInfo, hj, hjs, h1, h2, Nat.le_of_lt hi, add_nat, Result.andThen, Instr.sureAddr]
def d36 : List UInt8 := [48, 49, 50, 51, 52, 53, 54, 55, 56, 57, 97, 98, 99, 100, 101, 102, 103, 104, 105, 106, 107, 108, 109, 110, 111, 112, 113, 114, 115, 116, 117, 118, 119, 120, 121, 122]
theorem d36_hex {v : Nat} (h : v < 16) : d36.getD v 0 = hexs.getD v 0 := by
  have key : ∀ v : Fin 16, d36.getD v.val 0 = hexs.getD v.val 0 := by decide +kernel
  exact key ⟨v, h⟩
theorem zero65 (w : World) : (zeroValue 233).run Tryz.prog w = .ok (.agg (Array.replicate 65 (.int .u8 0))) w := by kernel_rfl
set_option maxRecDepth 40000 in
set_option maxHeartbeats 1000000 in
theorem fbits_walk {w : World} {u : Nat} (hu : u < 2 ^ 64) (hz : ZerT w) :
    Calls Tryz.prog 143 #[.slice none 0 0, .int .u64 (u : Int), .int .i64 16, .bool false, .bool false] w fun e w' => (∃ k, 1 ≤ k ∧ k ≤ 16 ∧ u < 16 ^ k ∧ e = .returned (.tuple #[.slice none 0 0, strV (hexk k u)])) ∧ Turn nowhere w w' := by
  have HU := Lib.hid hu
  have HZ := Lib.hid hz
  clear hu hz
  go_enter Tryz.func143, Tryz.ntmps143
  go_upto_region 3 with fail
  refine wp_region_lit ?_
  refine wR (v := .pointer (some ⟨w.heap.size, 0, none⟩)) (w' := w.alloc (.cells (Array.replicate 65 (.int .u8 0)) 233)) rfl (gx_alloc rfl (zero65 _)) ?_
  simp only [Act.put, zzA, zz0, zz1]
  have hb0 := Blk.new w 233 (Array.replicate 65 (.int .u8 0))
  have hu0 := (Turn.refl nowhere w).alloc (.cells (Array.replicate 65 (.int .u8 0)) 233)
  obtain ⟨ga, hga⟩ : ∃ ga, ga = w.heap.size := ⟨_, rfl⟩
  rw [← hga] at hb0 ⊢
  have HG := Lib.hid hga
  have HB := Lib.hid hb0
  have HT := Lib.hid hu0
  clear hb0 hu0 hga
  generalize w.alloc (.cells (Array.replicate 65 (.int .u8 0)) 233) = w1 at *
  go_upto_region 8 with (go_at_call 161; refine two_walk.mono ?_; rintro e w2 ⟨rfl, rfl⟩)
  go_wp2_with (go_at_call 162; refine (zeros_walk (HZ.out.turn HT.out)).mono ?_; rintro e w2 ⟨rfl, rfl⟩)
  have HU0 := Lib.hid (show u < 16 ^ 16 from by have := HU.out; omega)
  go_loopg [1, 13] 16 (fun gk uv iv wr => ∃ (k : Nat) (C : Array Value), k + gk = 16 ∧ k ≤ 15 ∧ uv = .int .u64 ((u / 16 ^ k : Nat) : Int) ∧ iv = .int .i64 ((65 - k : Nat) : Int) ∧ Blk wr ga 233 C ∧ C.size = 65 ∧ (∀ i x, (hexk k u)[i]? = some x → C[65 - k + i]? = some (.int .u8 (x.toNat : Int))) ∧ Turn nowhere w wr)
  case atStart => exact ⟨0, _, by omega, by omega, by simp, rfl, HB.out, by simp, fun i x h => by simp [hexk] at h, HT.out⟩
  obtain ⟨k, C, hk, hk15, rfl, rfl, hbC, hC, hcells, htr⟩ := hrel
  obtain ⟨v, hv⟩ : ∃ v, v = u / 16 ^ k := ⟨_, rfl⟩
  rw [← hv]
  have hvl : v < 2 ^ 64 := by
    have := HU.out
    have : u / 16 ^ k ≤ u := Nat.div_le_self _ _
    omega
  have HK := Lib.hid hk
  have HK15 := Lib.hid hk15
  have HV := Lib.hid hv
  have HVL := Lib.hid hvl
  have HBC := Lib.hid hbC
  have HC := Lib.hid hC
  have HCE := Lib.hid hcells
  have HTR := Lib.hid htr
  clear hk hk15 hv hvl hbC hC hcells htr HB HT
  by_cases hge : 16 ≤ v
  · have y1 : (16 : Int) ≤ (v : Int) := by omega
    have hk14 : k ≤ 14 := by
      apply Nat.le_of_not_lt
      intro h
      have h15 : k = 15 := by have := HK15.out; omega
      have h2 := HV.out
      rw [h15] at h2
      have h3 := HU0.out
      have h4 : u / 16 ^ 15 < 16 := Nat.div_lt_of_lt_mul (by rw [← Nat.pow_succ]; exact h3)
      omega
    have HK14 := Lib.hid hk14
    clear hge hk14
    go_upto_region 12 with fail
    refine wp_region_lit ?_
    refine wR (v := .int .i64 ((65 - k : Nat) : Int)) rfl (exec_move rfl rfl) ?_
    simp only [Act.put, zzA, zz0, zz1]
    refine wR (v := .int .i64 ((64 - k : Nat) : Int)) rfl (ix_sub rfl rfl rfl (by have := HK14.out; omega) (by have := HK14.out; omega)) ?_
    simp only [Act.put, zzA, zz0, zz1]
    refine wR (v := .int .i64 ((64 - k : Nat) : Int)) rfl (gx_assign rfl rfl) ?_
    simp only [Act.put, zzA, zz0, zz1]
    go_upto_region 13 with fail
    refine wp_region_lit ?_
    refine wR (v := .int .i64 ((64 - k : Nat) : Int)) rfl (exec_move rfl rfl) ?_
    simp only [Act.put, zzA, zz0, zz1]
    refine wR (v := .int .u64 (v : Int)) rfl (exec_move rfl rfl) ?_
    simp only [Act.put, zzA, zz0, zz1]
    refine wR (v := .int .u64 15) rfl (exec_move rfl rfl) ?_
    simp only [Act.put, zzA, zz0, zz1]
    refine wR (v := .int .u64 ((v % 16 : Nat) : Int)) rfl (ux_and (m := 15) rfl rfl rfl HVL.out (by decide) (Nat.and_two_pow_sub_one_eq_mod v 4)) ?_
    simp only [Act.put, zzA, zz0, zz1]
    refine wR (v := .int .u8 ((d36.getD (v % 16) 0).toNat : Int)) rfl (exec_sidx (l := d36) rfl rfl rfl (Nat.lt_of_lt_of_le (Nat.mod_lt v (by decide)) (by decide))) ?_
    simp only [Act.put, zzA, zz0, zz1]
    refine wR (v := .pointer (some ⟨ga, 64 - k, none⟩)) rfl (gx_aaddr (i := 64 - k) (off := 0) (sz := 1) rfl rfl rfl Tryz.underlying233 (by kernel_rfl) (by omega) (by omega)) ?_
    simp only [Act.put, zzA, zz0, zz1]
    refine wpList_store1 (g := ga) (i := 64 - k) (v := .int .u8 ((d36.getD (v % 16) 0).toNat : Int)) rfl 5 (.tmp 54) (.tmp 53) rfl HBC.out rfl rfl (by have := HC.out; omega) (by rfl) (by rfl) (by kernel_rfl) ?_
    intro hb9 ht9
    simp only [Act.put, zzA, zz0, zz1]
    have HB9 := Lib.hid hb9
    have HT9 := Lib.hid (HTR.out.trans ht9 (fun a hk e => by
      have := HG.out
      have e : a = ga := e
      omega))
    clear hb9 ht9
    generalize World.setCell wr ⟨ga, 64 - k, none⟩ _ = w9 at *
    go_upto_region 14 with fail
    refine wp_region_lit ?_
    refine wR (v := .int .u64 (v : Int)) rfl (exec_move rfl rfl) ?_
    simp only [Act.put, zzA, zz0, zz1]
    refine wR (v := .int .u64 4) rfl (exec_move rfl rfl) ?_
    simp only [Act.put, zzA, zz0, zz1]
    refine wR (v := .int .u64 ((v / 16 : Nat) : Int)) rfl (ux_shr4 rfl rfl rfl HVL.out) ?_
    simp only [Act.put, zzA, zz0, zz1]
    refine wR (v := .int .u64 ((v / 16 : Nat) : Int)) rfl (gx_assign rfl rfl) ?_
    simp only [Act.put, zzA, zz0, zz1]
    go_wp2_with fail
    go_roundg (gk - 1)
    case measure => have := HK.out; have := HK15.out; omega
    case rel =>
      refine ⟨k + 1, _, by have := HK.out; have := HK15.out; omega, by have := HK14.out; omega, ?_, ?_, HB9.out, by simp; exact HC.out, fun i x hi => ?_, HT9.out⟩
      · rw [HV.out, Nat.div_div_eq_div_mul, ← Nat.pow_succ]
      · rw [show 65 - (k + 1) = 64 - k from by omega]
      · rw [hexk_cons] at hi
        rw [show 65 - (k + 1) + i = 64 - k + i from by omega]
        cases i with
        | zero =>
          simp only [List.getElem?_cons_zero, Option.some.injEq] at hi
          subst hi
          rw [Nat.add_zero, Array.getElem?_setIfInBounds_self_of_lt (by have := HC.out; omega), d36_hex (Nat.mod_lt v (by decide)), HV.out]
        | succ i =>
          simp only [List.getElem?_cons_succ] at hi
          rw [Array.getElem?_setIfInBounds_ne (by omega), show 64 - k + (i + 1) = 65 - k + i from by have := HK14.out; omega]
          exact HCE.out i x hi
  · have y1 : ¬ ((16 : Int) ≤ (v : Int)) := by omega
    have hlt : v < 16 := by omega
    have HLT := Lib.hid hlt
    clear hge hlt
    go_upto_region 15 with fail
    refine wp_region_lit ?_
    refine wR (v := .int .i64 ((65 - k : Nat) : Int)) rfl (exec_move rfl rfl) ?_
    simp only [Act.put, zzA, zz0, zz1]
    refine wR (v := .int .i64 ((64 - k : Nat) : Int)) rfl (ix_sub rfl rfl rfl (by have := HK15.out; omega) (by have := HK15.out; omega)) ?_
    simp only [Act.put, zzA, zz0, zz1]
    refine wR (v := .int .i64 ((64 - k : Nat) : Int)) rfl (gx_assign rfl rfl) ?_
    simp only [Act.put, zzA, zz0, zz1]
    go_upto_region 16 with fail
    refine wp_region_lit ?_
    refine wR (v := .int .i64 ((64 - k : Nat) : Int)) rfl (exec_move rfl rfl) ?_
    simp only [Act.put, zzA, zz0, zz1]
    refine wR (v := .int .u64 (v : Int)) rfl (exec_move rfl rfl) ?_
    simp only [Act.put, zzA, zz0, zz1]
    refine wR (v := .int .u8 ((d36.getD v 0).toNat : Int)) rfl (exec_sidx (l := d36) rfl rfl rfl (Nat.lt_of_lt_of_le HLT.out (by decide))) ?_
    simp only [Act.put, zzA, zz0, zz1]
    refine wR (v := .pointer (some ⟨ga, 64 - k, none⟩)) rfl (gx_aaddr (i := 64 - k) (off := 0) (sz := 1) rfl rfl rfl Tryz.underlying233 (by kernel_rfl) (by omega) (by omega)) ?_
    simp only [Act.put, zzA, zz0, zz1]
    refine wpList_store1 (g := ga) (i := 64 - k) (v := .int .u8 ((d36.getD v 0).toNat : Int)) rfl 5 (.tmp 63) (.tmp 62) rfl HBC.out rfl rfl (by have := HC.out; omega) (by rfl) (by rfl) (by kernel_rfl) ?_
    intro hb9 ht9
    simp only [Act.put, zzA, zz0, zz1]
    have HB9 := Lib.hid hb9
    have HT9 := Lib.hid (HTR.out.trans ht9 (fun a hk e => by
      have := HG.out
      have e : a = ga := e
      omega))
    clear hb9 ht9
    generalize World.setCell wr ⟨ga, 64 - k, none⟩ _ = w9 at *
    have HUK := Lib.hid (show u < 16 ^ (k + 1) from by
      have h1 := HV.out
      have h2 := HLT.out
      rw [Nat.pow_succ]
      rw [h1] at h2
      rw [Nat.mul_comm]
      exact (Nat.div_lt_iff_lt_mul (Nat.pow_pos (by decide))).1 h2)
    have HBS := Lib.hid (show Bs w9 (some ⟨ga, 64 - k, none⟩) (k + 1) (hexk (k + 1) u) from by
      refine ⟨hexk_len _ _, by have := HK15.out; unfold maxLen; omega, fun _ => ⟨ga, 64 - k, rfl, fun i hi => ?_⟩⟩
      rw [HB9.out.cell]
      cases i with
      | zero =>
        rw [Nat.add_zero, Array.getElem?_setIfInBounds_self_of_lt (by have := HC.out; omega), hexk_cons, ← HV.out, Nat.mod_eq_of_lt HLT.out, d36_hex HLT.out]
        rfl
      | succ i =>
        rw [Array.getElem?_setIfInBounds_ne (by omega), show 64 - k + (i + 1) = 65 - k + i from by have := HK15.out; omega, hexk_cons]
        have hil : i < (hexk k u).length := by rw [hexk_len]; omega
        rw [HCE.out i _ (List.getElem?_eq_getElem hil)]
        simp [List.getD_eq_getElem?_getD, List.getElem?_eq_getElem hil])
    go_upto_region 30 with fail
    refine wp_region_lit ?_
    refine wR (v := .int .i64 ((64 - k : Nat) : Int)) rfl (exec_move rfl rfl) ?_
    simp only [Act.put, zzA, zz0, zz1]
    refine wR (v := .slice (some ⟨ga, 64 - k, none⟩) (k + 1) (k + 1)) rfl (gx_aslice (i := 64 - k) (off := 0) (sz := 1) rfl rfl rfl Tryz.underlying233 (by kernel_rfl) (by omega) (by omega) (by have := HK15.out; omega)) ?_
    simp only [Act.put, zzA, zz0, zz1]
    refine wR (v := strV (hexk (k + 1) u)) rfl (exec_strBs rfl rfl HBS.out) ?_
    simp only [Act.put, zzA, zz0, zz1]
    refine wR (v := strV (hexk (k + 1) u)) rfl (gx_assign rfl rfl) ?_
    simp only [Act.put, zzA, zz0, zz1]
    go_wp2_with fail
    go_ret2
    exact ⟨⟨k + 1, by omega, by have := HK15.out; omega, HUK.out, rfl⟩, HT9.out⟩
set_option maxRecDepth 20000 in
theorem fuint_walk {w : World} {u : Nat} (hu : u < 2 ^ 64) (hz : ZerT w) :
    Calls Tryz.prog 112 #[.int .u64 (u : Int), .int .i64 16] w fun e w' => (∃ k, 1 ≤ k ∧ k ≤ 16 ∧ u < 16 ^ k ∧ e = .returned (strV (hexk k u))) ∧ Turn nowhere w w' := by
  have HIN : Calls Tryz.prog 126 #[.int .u64 (u : Int), .int .i64 16] w fun e w' => (∃ k, 1 ≤ k ∧ k ≤ 16 ∧ u < 16 ^ k ∧ e = .returned (strV (hexk k u))) ∧ Turn nowhere w w' := by
    have HF := Lib.hid (fbits_walk hu hz)
    clear hu hz
    go_enter Tryz.func126, Tryz.ntmps126
    go_wp2_with (go_at_call 143; refine HF.out.mono ?_; rintro e w' ⟨⟨k, h1, h2, h3, rfl⟩, ht⟩)
    go_ret
    exact ⟨⟨k, h1, h2, h3, rfl⟩, ht⟩
  have HI := Lib.hid HIN
  clear HIN hu hz
  go_enter Tryz.func112, Tryz.ntmps112
  go_wp2_with (go_at_call 126; refine HI.out.mono ?_; rintro e w' ⟨⟨k, h1, h2, h3, rfl⟩, ht⟩)
  go_ret
  exact ⟨⟨k, h1, h2, h3, rfl⟩, ht⟩
end Go.Proofs.YticofobhkmabiaaGreatDoor
namespace Go.Proofs.YticofobhkmabiaaGreatDoor.Fdd
set_option linter.unusedVariables false
theorem mem_nums {h a : Nat} {x : Int} : x ∈ nums h a ↔ ∃ i : Nat, i < 64 ∧ h.testBit (63 - i) = true ∧ x = ((a + i + 1 : Nat) : Int) := by
  unfold nums
  simp only [List.mem_map, List.mem_filter, List.mem_range]
  constructor
  · rintro ⟨i, ⟨h1, h2⟩, rfl⟩
    exact ⟨i, h1, h2, rfl⟩
  · rintro ⟨i, h1, h2, rfl⟩
    exact ⟨i, ⟨h1, h2⟩, rfl⟩
theorem rise_nums (h a : Nat) : Rise (nums h a) := by
  unfold nums Rise
  rw [List.pairwise_map]
  refine ((List.pairwise_lt_range (n := 64)).filter _).imp ?_
  intro x y hxy
  omega
theorem fold_or (g : Fld → Nat) (p : Fld → Bool) : ∀ (fs : List Fld) (a j : Nat), (fs.foldl (fun a f => if p f = true then a ||| 2 ^ g f else a) a).testBit j = true ↔ a.testBit j = true ∨ ∃ f ∈ fs, p f = true ∧ g f = j
  | [], a, j => by simp
  | f :: r, a, j => by
    rw [List.foldl_cons, fold_or g p r]
    by_cases hp : p f = true
    · rw [if_pos hp, Nat.testBit_or, Nat.testBit_two_pow]
      simp only [Bool.or_eq_true, decide_eq_true_eq, List.mem_cons]
      constructor
      · rintro ((h | h) | ⟨x, h1, h2⟩)
        · exact .inl h
        · exact .inr ⟨f, .inl rfl, hp, h⟩
        · exact .inr ⟨x, .inr h1, h2⟩
      · rintro (h | ⟨x, rfl | h1, h2, h3⟩)
        · exact .inl (.inl h)
        · exact .inl (.inr h3)
        · exact .inr ⟨x, h1, h2, h3⟩
    · rw [if_neg hp]
      simp only [List.mem_cons]
      constructor
      · rintro (h | ⟨x, h1, h2⟩)
        · exact .inl h
        · exact .inr ⟨x, .inr h1, h2⟩
      · rintro (h | ⟨x, rfl | h1, h2, h3⟩)
        · exact .inl h
        · exact absurd h2 hp
        · exact .inr ⟨x, h1, h2, h3⟩
theorem bit_half1 (fs : List Fld) (j : Nat) : (half1 fs).testBit j = true ↔ ∃ f ∈ fs, f.1 ≤ 64 ∧ 64 - f.1.toNat = j := by
  have h := fold_or (fun f => 64 - f.1.toNat) (fun f => decide (f.1 ≤ 64)) fs 0 j
  simp only [decide_eq_true_eq, Nat.zero_testBit, Bool.false_eq_true, false_or] at h
  exact h
theorem half2_eq : ∀ (fs : List Fld) (a : Nat), fs.foldl (fun a f => if f.1 ≤ 64 then a else a ||| 2 ^ (128 - f.1.toNat)) a = fs.foldl (fun a f => if decide (64 < f.1) = true then a ||| 2 ^ (128 - f.1.toNat) else a) a
  | [], _ => rfl
  | f :: r, a => by
    rw [List.foldl_cons, List.foldl_cons, half2_eq r]
    congr 1
    by_cases h : f.1 ≤ 64
    · rw [if_pos h, if_neg (by simpa using h)]
    · rw [if_neg h, if_pos (by simp; omega)]
theorem bit_half2 (fs : List Fld) (j : Nat) : (half2 fs).testBit j = true ↔ ∃ f ∈ fs, 64 < f.1 ∧ 128 - f.1.toNat = j := by
  have h := fold_or (fun f => 128 - f.1.toNat) (fun f => decide (64 < f.1)) fs 0 j
  unfold half2
  rw [half2_eq]
  simp only [decide_eq_true_eq, Nat.zero_testBit, Bool.false_eq_true, false_or] at h
  simp only [decide_eq_true_eq]
  exact h
/-- fields whose numbers rise, and are such as there are -/
def Nos (fs : List Fld) : Prop := Rise (fs.map (·.1)) ∧ ∀ f ∈ fs, 2 ≤ f.1 ∧ f.1 ≤ 97
theorem half1_lt {fs : List Fld} (h : ∀ f ∈ fs, 2 ≤ f.1 ∧ f.1 ≤ 97) : half1 fs < 2 ^ 63 := by
  refine Nat.lt_pow_two_of_testBit _ fun i hi => ?_
  cases hb : (half1 fs).testBit i with
  | false => rfl
  | true =>
    obtain ⟨f, hf, h1, h2⟩ := (bit_half1 fs i).1 hb
    have := h f hf
    omega
theorem half2_lt {fs : List Fld} (h : ∀ f ∈ fs, 2 ≤ f.1 ∧ f.1 ≤ 97) : half2 fs < 2 ^ 64 := by
  refine Nat.lt_pow_two_of_testBit _ fun i hi => ?_
  cases hb : (half2 fs).testBit i with
  | false => rfl
  | true =>
    obtain ⟨f, hf, h1, h2⟩ := (bit_half2 fs i).1 hb
    have := h f hf
    omega
theorem half_nums {fs : List Fld} (h : Nos fs) : nums (half1 fs) 0 ++ nums (half2 fs) 64 = fs.map (·.1) := by
  refine rise_eq ?_ h.1 fun x => ?_
  · refine List.pairwise_append.2 ⟨rise_nums _ _, rise_nums _ _, fun x hx y hy => ?_⟩
    obtain ⟨i, h1, _, rfl⟩ := mem_nums.1 hx
    obtain ⟨k, _, _, rfl⟩ := mem_nums.1 hy
    omega
  · rw [List.mem_append, mem_nums, mem_nums, List.mem_map]
    constructor
    · rintro (⟨i, h1, h2, rfl⟩ | ⟨i, h1, h2, rfl⟩)
      · obtain ⟨f, hf, h3, h4⟩ := (bit_half1 _ _).1 h2
        have := h.2 f hf
        exact ⟨f, hf, by omega⟩
      · obtain ⟨f, hf, h3, h4⟩ := (bit_half2 _ _).1 h2
        have := h.2 f hf
        exact ⟨f, hf, by omega⟩
    · rintro ⟨f, hf, rfl⟩
      have := h.2 f hf
      by_cases h64 : f.1 ≤ 64
      · exact .inl ⟨f.1.toNat - 1, by omega, (bit_half1 _ _).2 ⟨f, hf, h64, by omega⟩, by omega⟩
      · exact .inr ⟨f.1.toNat - 65, by omega, (bit_half2 _ _).2 ⟨f, hf, by omega, by omega⟩, by omega⟩
theorem nums_zero (a : Nat) : nums 0 a = [] := by
  unfold nums
  simp [List.filter_eq_nil_iff]
/-! ### the map there and back -/
def mapPut (d : Nat) (fs : List Fld) : List UInt8 := (halves fs).foldr (fun h b => (mapFm d).put h ++ b) []
theorem mhead_eq (d : Nat) (ty : Int) (fs : List Fld) : mhead d ty fs = (typeFm d).put (ver d ++ dig3 ty.toNat) ++ mapPut d fs := by
  unfold mhead mapPut halves
  split
  · simp
  · simp [List.append_assoc]
theorem hex_right (d n : Nat) : (mapFm d).right (hexk 16 n) = true := right_b.2 ⟨hexk_len 16 n, hexk_only 16 n⟩
theorem takeHalf_back {d n : Nat} {rest : List UInt8} (hd : 1 ≤ d ∧ d ≤ 3) (hn : n < 2 ^ 64) : takeHalf d ((mapFm d).put (hexk 16 n) ++ rest) = .ok (n, rest) := by
  unfold takeHalf
  rw [show mapFm d = nf 4 8 d from rfl, fm_back (by decide) hd (by decide) (hex_right d n)]
  simp only []
  rw [hexVal_hexk 16 n hn]
theorem takeHalf_one {d n : Nat} {b rest : List UInt8} (hd : 1 ≤ d ∧ d ≤ 3) (h : takeHalf d b = .ok (n, rest)) : (mapFm d).put (hexk 16 n) ++ rest = b ∧ n < 2 ^ 64 := by
  unfold takeHalf at h
  split at h
  · cases h
  · rename_i t r hm
    injection h with h
    injection h with h1 h2
    obtain ⟨h3, h4⟩ := fm_one (by decide) hd (by decide) (show (nf 4 8 d).take b = .ok (t, r) from hm)
    obtain ⟨h5, h6⟩ := right_b.1 h3
    obtain ⟨h7, h8⟩ := hexk_hexVal 16 t h5 h6
    subst h1
    subst h2
    rw [h7]
    exact ⟨h4, h8⟩
theorem or_top {n : Nat} (h : n < 2 ^ 63) : (n ||| 2 ^ 63) % 2 ^ 63 = n ∧ (n ||| 2 ^ 63).testBit 63 = true ∧ (n ||| 2 ^ 63) < 2 ^ 64 := by
  refine ⟨Nat.eq_of_testBit_eq fun i => ?_, by rw [Nat.testBit_or, Nat.testBit_two_pow]; simp, Nat.or_lt_two_pow (by omega) (by decide)⟩
  rw [Nat.testBit_mod_two_pow, Nat.testBit_or, Nat.testBit_two_pow]
  by_cases hi : i < 63
  · have : ¬ (63 = i) := by omega
    simp [hi, this]
  · have : n.testBit i = false := Nat.testBit_lt_two_pow (Nat.lt_of_lt_of_le h (Nat.pow_le_pow_right (by decide) (by omega)))
    simp [hi, this]
theorem takeMap_back {d : Nat} {fs : List Fld} {rest : List UInt8} (hd : 1 ≤ d ∧ d ≤ 3) (h : Nos fs) : takeMap d (mapPut d fs ++ rest) = .ok (fs.map (·.1), rest) := by
  have e := half_nums h
  have l1 := half1_lt h.2
  have l2 := half2_lt h.2
  unfold mapPut halves
  by_cases h0 : half2 fs = 0
  · rw [if_pos h0]
    rw [h0, nums_zero, List.append_nil] at e
    have ht : (half1 fs).testBit 63 = false := Nat.testBit_lt_two_pow l1
    simp only [List.foldr_cons, List.foldr_nil, List.append_nil]
    unfold takeMap
    rw [takeHalf_back hd (by omega)]
    simp only []
    rw [if_pos ht, e]
  · rw [if_neg h0]
    obtain ⟨a1, a2, a3⟩ := or_top l1
    simp only [List.foldr_cons, List.foldr_nil, List.append_nil, List.append_assoc]
    unfold takeMap
    rw [takeHalf_back hd a3]
    simp only []
    rw [if_neg (by rw [a2]; decide), takeHalf_back hd l2]
    simp only []
    rw [if_neg h0, a1, e]
theorem takeMap_one {d : Nat} {fs : List Fld} {b rest : List UInt8} (hd : 1 ≤ d ∧ d ≤ 3) (h : takeMap d b = .ok (fs.map (·.1), rest)) (hn : ∀ f ∈ fs, 2 ≤ f.1 ∧ f.1 ≤ 97) : mapPut d fs ++ rest = b ∧ Rise (fs.map (·.1)) := by
  unfold takeMap at h
  split at h
  · cases h
  · rename_i n r hm
    obtain ⟨e1, e2⟩ := takeHalf_one hd hm
    split at h
    · rename_i ht
      injection h with h
      injection h with h1 h2
      subst h2
      have hmem : ∀ f ∈ fs, ∃ i : Nat, i < 64 ∧ n.testBit (63 - i) = true ∧ f.1 = ((0 + i + 1 : Nat) : Int) := fun f hf => mem_nums.1 (by rw [h1]; exact List.mem_map.2 ⟨f, hf, rfl⟩)
      have hh2 : half2 fs = 0 := Nat.eq_of_testBit_eq fun j => by
        rw [Nat.zero_testBit]
        cases hb : (half2 fs).testBit j with
        | false => rfl
        | true =>
          obtain ⟨f, hf, h3, _⟩ := (bit_half2 _ _).1 hb
          obtain ⟨i, hi, _, h4⟩ := hmem f hf
          omega
      have hh1 : half1 fs = n := Nat.eq_of_testBit_eq fun j => by
        rw [Bool.eq_iff_iff, bit_half1]
        constructor
        · rintro ⟨f, hf, h3, h4⟩
          obtain ⟨i, hi, h5, h6⟩ := hmem f hf
          rw [show j = 63 - i from by omega]
          exact h5
        · intro hj
          have hj64 : j < 64 := by
            apply Nat.lt_of_not_le
            intro hle
            have : n.testBit j = false := Nat.testBit_lt_two_pow (Nat.lt_of_lt_of_le e2 (Nat.pow_le_pow_right (by decide) hle))
            rw [hj] at this
            cases this
          have : (((0 + (63 - j) + 1 : Nat)) : Int) ∈ nums n 0 := mem_nums.2 ⟨63 - j, by omega, by rw [show 63 - (63 - j) = j from by omega]; exact hj, rfl⟩
          rw [h1] at this
          obtain ⟨f, hf, h3⟩ := List.mem_map.1 this
          exact ⟨f, hf, by omega, by omega⟩
      refine ⟨?_, by rw [← h1]; exact rise_nums _ _⟩
      unfold mapPut halves
      rw [if_pos hh2, hh1]
      simp only [List.foldr_cons, List.foldr_nil, List.append_nil]
      exact e1
    · rename_i ht
      have ht1 : n.testBit 63 = true := by
        cases hb : n.testBit 63 with
        | true => rfl
        | false => exact absurd hb ht
      split at h
      · cases h
      · rename_i n2 r2 hm2
        obtain ⟨e3, e4⟩ := takeHalf_one hd hm2
        split at h
        · cases h
        · rename_i h20
          injection h with h
          injection h with h1 h2
          subst h2
          have hmem : ∀ f ∈ fs, (∃ i : Nat, i < 64 ∧ (n % 2 ^ 63).testBit (63 - i) = true ∧ f.1 = ((0 + i + 1 : Nat) : Int)) ∨ ∃ i : Nat, i < 64 ∧ n2.testBit (63 - i) = true ∧ f.1 = ((64 + i + 1 : Nat) : Int) := fun f hf => by
            have : f.1 ∈ nums (n % 2 ^ 63) 0 ++ nums n2 64 := by rw [h1]; exact List.mem_map.2 ⟨f, hf, rfl⟩
            rcases List.mem_append.1 this with h | h
            · exact .inl (mem_nums.1 h)
            · exact .inr (mem_nums.1 h)
          have hh2 : half2 fs = n2 := Nat.eq_of_testBit_eq fun j => by
            rw [Bool.eq_iff_iff, bit_half2]
            constructor
            · rintro ⟨f, hf, h3, h4⟩
              rcases hmem f hf with ⟨i, hi, h5, h6⟩ | ⟨i, hi, h5, h6⟩
              · omega
              · rw [show j = 63 - i from by omega]
                exact h5
            · intro hj
              have hj64 : j < 64 := by
                apply Nat.lt_of_not_le
                intro hle
                have : n2.testBit j = false := Nat.testBit_lt_two_pow (Nat.lt_of_lt_of_le e4 (Nat.pow_le_pow_right (by decide) hle))
                rw [hj] at this
                cases this
              have : (((64 + (63 - j) + 1 : Nat)) : Int) ∈ nums n2 64 := mem_nums.2 ⟨63 - j, by omega, by rw [show 63 - (63 - j) = j from by omega]; exact hj, rfl⟩
              have := List.mem_append.2 (.inr this : _ ∈ nums (n % 2 ^ 63) 0 ∨ _)
              rw [h1] at this
              obtain ⟨f, hf, h3⟩ := List.mem_map.1 this
              exact ⟨f, hf, by omega, by omega⟩
          have hh1 : half1 fs ||| 2 ^ 63 = n := Nat.eq_of_testBit_eq fun j => by
            rw [Nat.testBit_or, Nat.testBit_two_pow, Bool.eq_iff_iff, Bool.or_eq_true, bit_half1, decide_eq_true_eq]
            constructor
            · rintro (⟨f, hf, h3, h4⟩ | rfl)
              · rcases hmem f hf with ⟨i, hi, h5, h6⟩ | ⟨i, hi, h5, h6⟩
                · rw [Nat.testBit_mod_two_pow, Bool.and_eq_true] at h5
                  rw [show j = 63 - i from by omega]
                  exact h5.2
                · omega
              · exact ht1
            · intro hj
              by_cases h63 : 63 = j
              · exact .inr h63
              · refine .inl ?_
                have hj64 : j < 63 := by
                  apply Nat.lt_of_not_le
                  intro hle
                  have : n.testBit j = false := Nat.testBit_lt_two_pow (Nat.lt_of_lt_of_le e2 (Nat.pow_le_pow_right (by decide) (by omega)))
                  rw [hj] at this
                  cases this
                have : (((0 + (63 - j) + 1 : Nat)) : Int) ∈ nums (n % 2 ^ 63) 0 := mem_nums.2 ⟨63 - j, by omega, by rw [show 63 - (63 - j) = j from by omega, Nat.testBit_mod_two_pow, hj, decide_eq_true hj64]; rfl, rfl⟩
                have := List.mem_append.2 (.inl this : _ ∨ _ ∈ nums n2 64)
                rw [h1] at this
                obtain ⟨f, hf, h3⟩ := List.mem_map.1 this
                exact ⟨f, hf, by omega, by omega⟩
          refine ⟨?_, ?_⟩
          · unfold mapPut halves
            rw [if_neg (by rw [hh2]; exact h20), hh1, hh2]
            simp only [List.foldr_cons, List.foldr_nil, List.append_nil, List.append_assoc]
            rw [e3, e1]
          · rw [← h1]
            refine List.pairwise_append.2 ⟨rise_nums _ _, rise_nums _ _, fun x hx y hy => ?_⟩
            obtain ⟨i, g1, _, rfl⟩ := mem_nums.1 hx
            obtain ⟨k, _, _, rfl⟩ := mem_nums.1 hy
            omega
end Go.Proofs.YticofobhkmabiaaGreatDoor.Fdd
namespace Go.Proofs.YticofobhkmabiaaGreatDoor
open Go.RowKit
open Fdd
set_option linter.unusedVariables false
set_option linter.unusedSimpArgs false
/-- one operation alone: what follows behind a letter -/
theorem wpList_op {P : Program} {ops : Array Oper} {rest : List Oper} {o : Oper} {a : Act} {w : World} {Q : Exit → Act → World → Prop} (hgd : Region.wanted o (yielded ops a.tmps) = true) (h : ∀ K : Act → World → Prop, Hid (∀ a' w', wpList P ops Q rest a' w' → K a' w') → o.wp P a w K Q) : wpList P ops Q (o :: rest) a w :=
  wpList_step fun K hK => by
    rw [if_pos hgd]
    exact h K (Lib.hid hK)
theorem size_field : (Tryz.prog.info? 40).map (·.size) = some 2 := by kernel_rfl
theorem zero_field (w : World) : (zeroValue 40).run Tryz.prog w = .ok (.agg #[.int .i64 0, strV []]) w := by kernel_rfl
def fldA (f : Fld) : Array Value := #[.int .i64 f.1, strV f.2]
theorem fldA_one (f : Fld) : ∀ v ∈ (fldA f).toList, v.oneCell' = true := fun v hv => by
  unfold fldA at hv
  simp only [List.mem_cons, List.not_mem_nil, or_false] at hv
  rcases hv with rfl | rfl <;> rfl
/-- a slice that reads as fields -/
def Fl (w : World) (A : Option Addr) (n : Nat) (fs : List Fld) : Prop := fs.length = n ∧ n ≤ 140737488355328 ∧ (0 < n → ∃ b off, A = some ⟨b, off, none⟩ ∧ ∀ i f, fs[i]? = some f → w.rangeAt b (off + i * 2) (fldA f).toList)
theorem Fl.still {w w' : World} {A : Option Addr} {n : Nat} {fs : List Fld} (h : Fl w A n fs) (ht : Turn nowhere w w') : Fl w' A n fs := by
  obtain ⟨h1, h2, h3⟩ := h
  refine ⟨h1, h2, fun hp => ?_⟩
  obtain ⟨b, off, e, hc⟩ := h3 hp
  exact ⟨b, off, e, fun i f hf j v hv => (ht.cell (World.block_lt_of_cell? _ _ (hc i f hf j v hv)) (fun e => e)).trans (hc i f hf j v hv)⟩
theorem half1_snoc (l : List Fld) (f : Fld) : half1 (l ++ [f]) = if f.1 ≤ 64 then half1 l ||| 2 ^ (64 - f.1.toNat) else half1 l := by
  unfold half1
  rw [List.foldl_append]
  rfl
theorem half2_snoc (l : List Fld) (f : Fld) : half2 (l ++ [f]) = if f.1 ≤ 64 then half2 l else half2 l ||| 2 ^ (128 - f.1.toNat) := by
  unfold half2
  rw [List.foldl_append]
  rfl
theorem take_snoc {fs : List Fld} {j : Nat} {f : Fld} (h : fs[j]? = some f) : fs.take (j + 1) = fs.take j ++ [f] := by
  rw [List.take_add_one, h]
  rfl
theorem pow_lt64 {m : Nat} (h : m < 64) : 2 ^ m < 2 ^ 64 := Nat.pow_lt_pow_right (by decide) h
set_option maxRecDepth 20000 in
theorem bit_walk {w : World} {n : Nat} (h : 1 ≤ n ∧ n ≤ 64) : Calls Tryz.prog 83 #[.int .i64 (n : Int)] w fun e w' => e = .returned (.int .u64 ((2 ^ (64 - n) : Nat) : Int)) ∧ w' = w := by
  have H := Lib.hid h
  clear h
  go_enter Tryz.func83, Tryz.ntmps83
  go_upto_region 1 with fail
  refine wp_region_lit ?_
  refine wR (v := .int .i64 (n : Int)) rfl (exec_move rfl rfl) ?_
  simp only [Act.put, zzA, zz0, zz1]
  refine wR (v := .int .i64 ((64 - n : Nat) : Int)) rfl (ix_sub rfl rfl rfl (by have := H.out; omega) (by have := H.out; omega)) ?_
  simp only [Act.put, zzA, zz0, zz1]
  refine wR (v := .int .u64 ((2 ^ (64 - n) : Nat) : Int)) rfl (ux_shl1 rfl rfl (by have := H.out; omega)) ?_
  simp only [Act.put, zzA, zz0, zz1]
  refine wR (v := .int .u64 ((2 ^ (64 - n) : Nat) : Int)) rfl (gx_assign rfl rfl) ?_
  simp only [Act.put, zzA, zz0, zz1]
  obtain ⟨q, hq⟩ : ∃ q, q = 2 ^ (64 - n) := ⟨_, rfl⟩
  rw [← hq]
  have HQ := Lib.hid hq
  clear hq
  go_wp2_with fail
  go_ret
  exact ⟨ret_int (by rw [HQ.out]), rfl⟩
set_option maxRecDepth 20000 in
theorem bitsText_walk {w : World} {u : Nat} (hu : u < 2 ^ 64) (hz : ZerT w) :
    Calls Tryz.prog 90 #[.int .u64 (u : Int)] w fun e w' => e = .returned (strV (hexk 16 u)) ∧ Turn nowhere w w' := by
  have HF := Lib.hid (fuint_walk hu hz)
  clear hu hz
  go_enter Tryz.func90, Tryz.ntmps90
  go_upto_region 2 with (go_at_call 112; refine HF.out.mono ?_; rintro e w1 ⟨⟨k, h1, h2, h3, rfl⟩, ht⟩)
  have HT := Lib.hid ht
  have HK := Lib.hid h2
  have HE := Lib.hid (show hexk 16 u = List.replicate (16 - k) 48 ++ hexk k u from by rw [← hexk_pad (16 - k) k u h3, show 16 - k + k = 16 from by omega])
  have HL := Lib.hid (hexk_len k u)
  clear h1 h2 h3 ht HF
  generalize hexk k u = dg at *
  refine wp_region_lit ?_
  refine wR (v := strV dg) rfl (exec_move rfl rfl) ?_
  simp only [Act.put, zzA, zz0, zz1]
  refine wR (v := .int .i64 (dg.length : Int)) rfl (exec_slen rfl rfl) ?_
  simp only [Act.put, zzA, zz0, zz1]
  refine wR (v := .int .i64 ((16 - k : Nat) : Int)) rfl (ix_sub rfl rfl rfl (by have := HK.out; have := HL.out; omega) (by have := HK.out; omega)) ?_
  simp only [Act.put, zzA, zz0, zz1]
  obtain ⟨m, hm⟩ : ∃ m, m = 16 - k := ⟨_, rfl⟩
  rw [← hm]
  have HM := Lib.hid hm
  clear hm
  have hrep : Calls Tryz.prog 89 #[.string ⟨#[48]⟩, .int .i64 (m : Int)] w1 fun e w' => e = .returned (strV (List.replicate m 48)) ∧ Below w1.heap.size w1 w' := by
    have h := Any.strings_Repeat Tryz.lays105 Tryz.Builder_Extra_105 ⟨#[48]⟩ m w1 (by have := HM.out; omega) (by have := HM.out; rw [show (ByteArray.mk #[48]).size = 1 from rfl]; omega)
    rw [show (ByteArray.mk #[48]).data.toList = [48] from rfl, repeat_one] at h
    exact h
  go_wp2_with (first
    | (go_at_call 89; refine hrep.mono ?_; rintro e w2 ⟨rfl, hb⟩)
    | (refine wR (v := strV (List.replicate m 48 ++ dg)) (w' := w2) rfl (exec_sadd (l := List.replicate m 48) (m := dg) rfl rfl rfl (by have := HM.out; have := HK.out; have := HL.out; rw [List.length_replicate]; omega)) ?_))
  go_ret
  rw [HE.out, ← HM.out]
  exact ⟨rfl, HT.out.next (Turn.of_below hb (Nat.le_refl _))⟩
/-- strings in a row -/
def Ss (w : World) (g : Nat) (l : List (List UInt8)) : Prop := ∃ C t, Blk w g t C ∧ ∀ (i : Nat) (s : List UInt8), l[i]? = some s → C[i]? = some (strV s)
theorem build_s1 (s : List UInt8) (W : World) : (Instr.buildSlice 106 1 #[(0, strV s)]).run Tryz.prog W = .ok (.slice (some ⟨W.heap.size, 0, none⟩) 1 1) (W.alloc (.cells #[strV s] 9)) := by kernel_rfl
theorem build_s2 (s t : List UInt8) (W : World) : (Instr.buildSlice 106 2 #[(0, strV s), (1, strV t)]).run Tryz.prog W = .ok (.slice (some ⟨W.heap.size, 0, none⟩) 2 2) (W.alloc (.cells #[strV s, strV t] 9)) := by kernel_rfl
theorem exec_buildSlice2 {P : Program} {a : Act} {o : Oper} {W : World} {t : TypeId} {x y : Operand} {u u' v : Value} {W' : World} (ho : o.op = .buildSlice t 2 #[(0, x), (1, y)]) (hx : a.eval x = u) (hy : a.eval y = u') (h : (Instr.buildSlice t 2 #[(0, u), (1, u')]).run P W = .ok v W') : (execOp a.eval o).run P W = .ok (.value v) W' := by
  unfold execOp
  simp only [ho, List.map_toArray, List.map_cons, List.map_nil, hx, hy, h, Sem.run_bind, Sem.run_pure, Result.andThen_ok]
set_option maxRecDepth 20000 in
set_option maxHeartbeats 1000000 in
theorem mapTexts_walk {w : World} {A : Option Addr} {n c : Nat} {fs : List Fld} (hf : Fl w A n fs) (hz : ZerT w) (hn : ∀ f ∈ fs, 2 ≤ f.1 ∧ f.1 ≤ 97) :
    Calls Tryz.prog 60 #[.slice A n c] w fun e w' => ∃ g c', e = .returned (.slice (some ⟨g, 0, none⟩) (halves fs).length c') ∧ Ss w' g (halves fs) ∧ Turn nowhere w w' := by
  have HF := Lib.hid hf
  have HZ := Lib.hid hz
  have HN := Lib.hid hn
  have HNL : Hid (fs.length = n) := Lib.hid hf.1
  have HNM : Hid (n ≤ 140737488355328) := Lib.hid hf.2.1
  have y9 : (n : Int) ≤ 140737488355328 := by
    have := HNM.out
    omega
  clear hf hz hn
  go_enter Tryz.func60, Tryz.ntmps60
  go_wp2_with fail
  go_loopg [3, 4, 9] n (fun gk av bv jv wr => ∃ j : Nat, j + gk = n ∧ jv = .int .i64 (j : Int) ∧ av = .int .u64 ((half1 (fs.take j) : Nat) : Int) ∧ bv = .int .u64 ((half2 (fs.take j) : Nat) : Int) ∧ Turn nowhere w wr)
  case atStart => exact ⟨0, by omega, rfl, rfl, rfl, Turn.refl _ _⟩
  obtain ⟨j, hjl, rfl, rfl, rfl, htr⟩ := hrel
  have HJL := Lib.hid hjl
  have HTR := Lib.hid htr
  clear hjl htr
  by_cases hlt : j < n
  · have y1 : (j : Int) < (n : Int) := by omega
    have HLT := Lib.hid hlt
    obtain ⟨f, hff⟩ : ∃ f, fs[j]? = some f := ⟨_, List.getElem?_eq_getElem (show j < fs.length from by rw [HNL.out]; exact hlt)⟩
    obtain ⟨bF, oF, rfl, hrow⟩ := HF.out.2.2 (by omega)
    have HRR := Lib.hid (show wr.rangeAt bF (oF + j * 2) (fldA f).toList from fun i v hv => (HTR.out.cell (World.block_lt_of_cell? _ _ (hrow j f hff i v hv)) (fun e => e)).trans (hrow j f hff i v hv))
    have HFN := Lib.hid (HN.out f (List.mem_of_getElem? hff))
    have HT1 := Lib.hid (half1_snoc (fs.take j) f)
    have HT2 := Lib.hid (half2_snoc (fs.take j) f)
    have HTS := Lib.hid (take_snoc hff)
    have HL1 := Lib.hid (Nat.lt_trans (half1_lt (fs := fs.take j) (fun f hf => HN.out f (List.mem_of_mem_take hf))) (by decide : 2 ^ 63 < 2 ^ 64))
    have HL2 := Lib.hid (half2_lt (fs := fs.take j) (fun f hf => HN.out f (List.mem_of_mem_take hf)))
    obtain ⟨no, hno⟩ : ∃ no : Nat, f.1 = (no : Int) := ⟨f.1.toNat, by have := HFN.out; omega⟩
    have HNO := Lib.hid hno
    clear hlt hff hrow hno
    go_upto_region 4 with fail
    refine wp_region_lit ?_
    refine wR (v := .pointer (some ⟨bF, oF + j * 2, none⟩)) rfl (gx_iaddr (i := j) (sz := 2) rfl rfl rfl Tryz.underlying22 size_field HLT.out (by omega)) ?_
    simp only [Act.put, zzA, zz0, zz1]
    refine wR (v := .agg (fldA f)) rfl (gx_loads rfl rfl HRR.out Tryz.underlying40 rfl (by rw [size_field]; rfl)) ?_
    simp only [Act.put, zzA, zz0, zz1]
    refine wR (v := .pointer (some ⟨wr.heap.size, 0, none⟩)) (w' := wr.alloc (.cells #[.int .i64 0, strV []] 40)) rfl (gx_alloc rfl (zero_field _)) ?_
    simp only [Act.put, zzA, zz0, zz1]
    have hb7 := Blk.new wr 40 #[.int .i64 0, strV []]
    have hu7 := HTR.out.alloc (.cells #[.int .i64 0, strV []] 40)
    obtain ⟨g7, hg7⟩ : ∃ g7, g7 = wr.heap.size := ⟨_, rfl⟩
    rw [← hg7] at hb7 ⊢
    have HG7 := Lib.hid (show w.heap.size ≤ g7 from by rw [hg7]; exact HTR.out.size)
    clear hg7
    generalize wr.alloc (.cells #[.int .i64 0, strV []] 40) = w2 at *
    refine wpList_store_row rfl 40 (.tmp 6) (.tmp 12) rfl (fldA f) hb7 rfl rfl rfl (by rw [size_field]; rfl) (fldA_one f) ?_
    intro w3 hb3 hu3
    have HB7 := Lib.hid hb3
    have HU3 := Lib.hid (hu7.trans hu3 (fun k hk e => by
      have := HG7.out
      have e : k = g7 := e
      omega))
    clear hb7 hu7 hb3 hu3 HRR
    simp only [Act.put, zzA, zz0, zz1]
    have c0 : w3.cell? ⟨g7, 0, none⟩ = some (.int .i64 (no : Int)) := by
      have := HB7.out.cell 0
      rw [this]
      show some (Value.int .i64 f.1) = _
      rw [HNO.out]
    generalize hq1 : half1 (fs.take j) = q1 at *
    generalize hq2 : half2 (fs.take j) = q2 at *
    have HQ1 := Lib.hid hq1
    have HQ2 := Lib.hid hq2
    clear hq1 hq2
    go_upto_region 5 with fail
    refine wp_region_lit ?_
    refine wR (v := .pointer (some ⟨g7, 0, none⟩)) rfl (exec_field (off := 0) (d := 0) rfl rfl (by kernel_rfl)) ?_
    simp only [Act.put, zzA, zz0, zz1]
    refine wR (v := .int .i64 (no : Int)) rfl (exec_load1 rfl rfl (by kernel_rfl) c0) ?_
    simp only [Act.put, zzA, zz0, zz1]
    by_cases h64 : no ≤ 64
    · have H64 := Lib.hid h64
      refine wR (v := .bool true) rfl (ix_leq rfl rfl rfl (decide_eq_true (by omega))) ?_
      simp only [Act.put, zzA, zz0, zz1]
      clear h64
      go_upto_region 6 with fail
      refine wp_region_lit ?_
      refine wR (v := .int .u64 (q1 : Int)) rfl (exec_move rfl rfl) ?_
      simp only [Act.put, zzA, zz0, zz1]
      refine wR (v := .pointer (some ⟨g7, 0, none⟩)) rfl (exec_field (off := 0) (d := 0) rfl rfl (by kernel_rfl)) ?_
      simp only [Act.put, zzA, zz0, zz1]
      refine wR (v := .int .i64 (no : Int)) rfl (exec_load1 rfl rfl (by kernel_rfl) c0) ?_
      simp only [Act.put, zzA, zz0, zz1]
      go_wp2_with (first
        | (go_at_call 83; refine (bit_walk (n := no) (by have := H64.out; have := HFN.out; have := HNO.out; omega)).mono ?_; rintro e w4 ⟨rfl, rfl⟩)
        | (refine wR (v := .int .u64 ((q1 ||| 2 ^ (64 - no) : Nat) : Int)) rfl (ux_or rfl rfl rfl HL1.out (pow_lt64 (by have := HFN.out; have := HNO.out; omega)) rfl) ?_))
      go_roundg (gk - 1)
      case measure => have := HJL.out; have := HLT.out; omega
      case rel => exact ⟨j + 1, by have := HJL.out; have := HLT.out; omega, by go_num, by rw [HTS.out, HT1.out, if_pos (by have := H64.out; have := HNO.out; omega), HNO.out]; rfl, by rw [HTS.out, HT2.out, if_pos (by have := H64.out; have := HNO.out; omega)], HU3.out⟩
    · have H64 := Lib.hid h64
      refine wR (v := .bool false) rfl (ix_leq rfl rfl rfl (decide_eq_false (by omega))) ?_
      simp only [Act.put, zzA, zz0, zz1]
      clear h64
      go_upto_region 7 with fail
      refine wp_region_lit ?_
      refine wR (v := .int .u64 (q2 : Int)) rfl (exec_move rfl rfl) ?_
      simp only [Act.put, zzA, zz0, zz1]
      refine wR (v := .pointer (some ⟨g7, 0, none⟩)) rfl (exec_field (off := 0) (d := 0) rfl rfl (by kernel_rfl)) ?_
      simp only [Act.put, zzA, zz0, zz1]
      refine wR (v := .int .i64 (no : Int)) rfl (exec_load1 rfl rfl (by kernel_rfl) c0) ?_
      simp only [Act.put, zzA, zz0, zz1]
      refine wR (v := .int .i64 ((no - 64 : Nat) : Int)) rfl (ix_sub rfl rfl rfl (by have := H64.out; omega) (by have := HFN.out; have := HNO.out; omega)) ?_
      simp only [Act.put, zzA, zz0, zz1]
      go_wp2_with (first
        | (go_at_call 83; refine (bit_walk (n := no - 64) (by have := H64.out; have := HFN.out; have := HNO.out; omega)).mono ?_; rintro e w4 ⟨rfl, rfl⟩)
        | (refine wR (v := .int .u64 ((q2 ||| 2 ^ (64 - (no - 64)) : Nat) : Int)) rfl (ux_or rfl rfl rfl HL2.out (pow_lt64 (by have := H64.out; omega)) rfl) ?_))
      go_roundg (gk - 1)
      case measure => have := HJL.out; have := HLT.out; omega
      case rel => exact ⟨j + 1, by have := HJL.out; have := HLT.out; omega, by go_num, by rw [HTS.out, HT1.out, if_neg (by have := H64.out; have := HNO.out; omega)], by rw [HTS.out, HT2.out, if_neg (by have := H64.out; have := HNO.out; omega), HNO.out, show 64 - (no - 64) = 128 - ((no : Int)).toNat from by have := H64.out; have := HFN.out; have := HNO.out; omega], HU3.out⟩
  · have y1 : ¬ ((j : Int) < (n : Int)) := by omega
    have HE := Lib.hid (show fs.take j = fs from List.take_of_length_le (by rw [HNL.out]; omega))
    have HL1 := Lib.hid (half1_lt HN.out)
    have HL2 := Lib.hid (half2_lt HN.out)
    clear hlt y9
    rw [HE.out]
    obtain ⟨q1, hq1⟩ : ∃ q1, q1 = half1 fs := ⟨_, rfl⟩
    obtain ⟨q2, hq2⟩ : ∃ q2, q2 = half2 fs := ⟨_, rfl⟩
    rw [← hq1, ← hq2]
    rw [← hq1] at HL1
    rw [← hq2] at HL2
    have HB1 := Lib.hid (bitsText_walk (w := wr) (Nat.lt_trans HL1.out (by decide : 2 ^ 63 < 2 ^ 64)) (HZ.out.turn HTR.out))
    by_cases h0 : q2 = 0
    · have HH := Lib.hid (show halves fs = [hexk 16 q1] from by
        unfold halves
        rw [← hq2, h0, if_pos rfl, ← hq1])
      have y2 : (q2 : Int) = 0 := by omega
      clear hq1 hq2 h0
      obtain ⟨x1, hx1⟩ : ∃ x1, x1 = hexk 16 q1 := ⟨_, rfl⟩
      rw [← hx1] at HB1 HH
      clear hx1
      go_upto_region 10 with fail
      refine wp_region_lit ?_
      refine wR (v := .int .u64 (q1 : Int)) rfl (exec_move rfl rfl) ?_
      simp only [Act.put, zzA, zz0, zz1]
      refine wpList_op rfl fun K9 HK9 => ?_
      go_wp2_with fail
      refine (HB1.out).mono ?_
      rintro e w4 ⟨rfl, ht4⟩
      refine HK9.out _ _ ?_
      clear HK9
      try simp only [Act.put, zzA, zz0, zz1]
      refine wR (v := .slice (some ⟨w4.heap.size, 0, none⟩) 1 1) (w' := w4.alloc (.cells #[strV x1] 9)) rfl (exec_buildSlice1 rfl rfl (build_s1 _ _)) ?_
      simp only [Act.put, zzA, zz0, zz1]
      go_wp2_with fail
      go_ret
      rw [HH.out]
      exact ⟨_, _, rfl, ⟨_, _, Blk.new _ _ _, fun i s h => by
        match i, h with
        | 0, h => injection h with h; subst h; rfl
        | i + 1, h => simp at h⟩, (HTR.out.next ht4).alloc _⟩
    · have HH := Lib.hid (show halves fs = [hexk 16 (q1 ||| 2 ^ 63), hexk 16 q2] from by
        unfold halves
        rw [← hq2, if_neg h0, ← hq1])
      have y2 : ¬ ((q2 : Int) = 0) := by omega
      have HO := Lib.hid (or_top HL1.out).2.2
      clear hq1 hq2 h0
      obtain ⟨qo, hqo⟩ : ∃ qo, qo = q1 ||| 2 ^ 63 := ⟨_, rfl⟩
      have HQO := Lib.hid hqo
      rw [← hqo] at HH HO
      have HBT := Lib.hid (bitsText_walk (w := wr) HO.out (HZ.out.turn HTR.out))
      have HBU := Lib.hid (fun W (ht : Turn nowhere w W) => bitsText_walk (w := W) HL2.out (HZ.out.turn ht))
      obtain ⟨x1, hx1⟩ : ∃ x1, x1 = hexk 16 qo := ⟨_, rfl⟩
      obtain ⟨x2, hx2⟩ : ∃ x2, x2 = hexk 16 q2 := ⟨_, rfl⟩
      rw [← hx1] at HBT HH
      rw [← hx2] at HBU HH
      clear hqo hx1 hx2 HB1
      go_upto_region 11 with fail
      refine wp_region_lit ?_
      refine wR (v := .int .u64 (q1 : Int)) rfl (exec_move rfl rfl) ?_
      simp only [Act.put, zzA, zz0, zz1]
      refine wpList_op rfl fun K9 HK9 => ?_
      go_wp2_with fail
      refine (bit_walk (n := 1) (by decide)).mono ?_
      rintro e w4 ⟨rfl, rfl⟩
      refine HK9.out _ _ ?_
      clear HK9
      try simp only [Act.put, zzA, zz0, zz1]
      refine wR (v := .int .u64 (qo : Int)) rfl (ux_or (m := 2 ^ 63) rfl rfl rfl (Nat.lt_trans HL1.out (by decide : 2 ^ 63 < 2 ^ 64)) (by decide) HQO.out.symm) ?_
      simp only [Act.put, zzA, zz0, zz1]
      refine wpList_op rfl fun K9 HK9 => ?_
      go_wp2_with fail
      refine (HBT.out).mono ?_
      rintro e w5 ⟨rfl, ht5⟩
      refine HK9.out _ _ ?_
      clear HK9
      try simp only [Act.put, zzA, zz0, zz1]
      refine wR (v := .int .u64 (q2 : Int)) rfl (exec_move rfl rfl) ?_
      simp only [Act.put, zzA, zz0, zz1]
      refine wpList_op rfl fun K9 HK9 => ?_
      go_wp2_with fail
      refine (HBU.out _ (HTR.out.next ht5)).mono ?_
      rintro e w6 ⟨rfl, ht6⟩
      refine HK9.out _ _ ?_
      clear HK9
      try simp only [Act.put, zzA, zz0, zz1]
      refine wR (v := .slice (some ⟨w6.heap.size, 0, none⟩) 2 2) (w' := w6.alloc (.cells #[strV x1, strV x2] 9)) rfl (exec_buildSlice2 rfl rfl rfl (build_s2 _ _ _)) ?_
      simp only [Act.put, zzA, zz0, zz1]
      go_wp2_with fail
      go_ret
      rw [HH.out]
      exact ⟨_, _, rfl, ⟨_, _, Blk.new _ _ _, fun i s h => by
        match i, h with
        | 0, h => injection h with h; subst h; rfl
        | 1, h => injection h with h; subst h; rfl
        | i + 2, h => simp at h⟩, ((HTR.out.next ht5).next ht6).alloc _⟩
end Go.Proofs.YticofobhkmabiaaGreatDoor
namespace Go.Proofs.YticofobhkmabiaaGreatDoor
open Go.RowKit
open Fdd
set_option linter.unusedVariables false
set_option linter.unusedSimpArgs false
/-- the error that a code is, where a field is asked -/
def badV (s : Sents) (no k : Int) : Value := if k = 52 then feV no s.field else if k = 41 then feV no s.text else .nilIface
def checkFsV (s : Sents) : Int → List Fld → Value
  | _, [] => .nilIface
  | last, f :: r => if fieldBad last f = 0 then checkFsV s f.1 r else badV s f.1 (fieldBad last f)
def checkV (s : Sents) (ty : Int) (fs : List Fld) : Value := if mtypes.contains ty = false then errS s.type_ else if 24 < fs.length then errS s.long else checkFsV s 0 fs
theorem bad_cases (last : Int) (f : Fld) : fieldBad last f = 0 ∨ fieldBad last f = 52 ∨ fieldBad last f = 41 := by
  unfold fieldBad
  split
  · exact .inr (.inl rfl)
  · split
    · exact .inr (.inl rfl)
    · split
      · exact .inl rfl
      · exact .inr (.inr rfl)
theorem checkFsV_ok (s : Sents) : ∀ (fs : List Fld) (last : Int), ErrV s (checkFsV s last fs) (checkFs last fs)
  | [], last => ErrV.nil
  | f :: r, last => by
    unfold checkFsV checkFs
    rcases bad_cases last f with h | h | h
    · rw [if_pos h, if_pos h]
      exact checkFsV_ok s r f.1
    · rw [if_neg (by omega), if_neg (by omega), h]
      exact ErrV.field f.1
    · rw [if_neg (by omega), if_neg (by omega), h]
      exact ErrV.text f.1
theorem checkV_ok (s : Sents) (ty : Int) (fs : List Fld) : ErrV s (checkV s ty fs) (mcheck ty fs) := by
  unfold checkV mcheck
  split
  · exact ErrV.type_
  · split
    · exact ErrV.long
    · exact checkFsV_ok s fs 0
/-- what check still has to say, when so many fields are right -/
theorem check_at {s : Sents} {fs : List Fld} {last : Int} {j : Nat} {f : Fld} (hf : fs[j]? = some f) (h : checkFsV s last (fs.drop j) = checkFsV s 0 fs) : (fieldBad last f = 0 → checkFsV s f.1 (fs.drop (j + 1)) = checkFsV s 0 fs) ∧ (fieldBad last f ≠ 0 → checkFsV s 0 fs = badV s f.1 (fieldBad last f)) := by
  obtain ⟨hj, hfj⟩ := List.getElem?_eq_some_iff.1 hf
  have hd : fs.drop j = f :: fs.drop (j + 1) := by rw [← hfj]; exact List.drop_eq_getElem_cons hj
  have he : checkFsV s last (f :: fs.drop (j + 1)) = if fieldBad last f = 0 then checkFsV s f.1 (fs.drop (j + 1)) else badV s f.1 (fieldBad last f) := rfl
  rw [hd, he] at h
  refine ⟨fun h0 => ?_, fun h0 => ?_⟩
  · rw [if_pos h0] at h
    exact h
  · rw [if_neg h0] at h
    exact h.symm
def msgV (ty : Int) (A : Option Addr) (n c : Nat) : Value := .agg #[.int .i64 ty, .slice A n c]
theorem mzero_form (w : World) : (zeroValue 49).run Tryz.prog w = .ok (.agg #[.int .i64 0, .int .i64 0, .int .i64 0]) w := by kernel_rfl
theorem ver_nil : unsaid 1 4 = [] := rfl
theorem wrap_zero (s : Sents) (no : Int) : wrapV s no 41 = feV no s.text := rfl
set_option maxRecDepth 20000 in
set_option maxHeartbeats 1000000 in
theorem check_walk2 {s : Sents} {w : World} {ty : Int} {A : Option Addr} {n c : Nat} {fs : List Fld} (ht : Tab w) (hs : Sen s w) (hr : RowsT w) (hf : Fl w A n fs) :
    Calls Tryz.prog 25 #[msgV ty A n c] w fun e w' => e = .returned (checkV s ty fs) ∧ Turn nowhere w w' := by
  have hu := (Turn.refl nowhere w).alloc (.cells #[.int .i64 ty, .slice A n c] 24)
  have hb := Blk.new w 24 #[.int .i64 ty, .slice A n c]
  obtain ⟨b0, hb0⟩ : ∃ b0, b0 = w.heap.size := ⟨_, rfl⟩
  obtain ⟨w1, hw1⟩ : ∃ w1, w1 = w.alloc (.cells #[.int .i64 ty, .slice A n c] 24) := ⟨_, rfl⟩
  rw [← hw1] at hu hb
  rw [← hb0] at hb
  have HT := Lib.hid (ht.turn hu)
  have HS := Lib.hid (hs.turn hu)
  have HR := Lib.hid (hr.turn hu)
  have HF := Lib.hid (hf.still hu)
  have HU := Lib.hid hu
  have HB := Lib.hid hb
  have HW := Lib.hid hw1
  have HB0 := Lib.hid hb0
  have HNL : Hid (fs.length = n) := Lib.hid hf.1
  have HNM : Hid (n ≤ 140737488355328) := Lib.hid hf.2.1
  have y9 : (n : Int) ≤ 140737488355328 := by
    have := HNM.out
    omega
  clear ht hs hr hf hu hb hw1 hb0
  unfold msgV
  go_enter Tryz.func25, Tryz.ntmps25
  go_upto_region 1 with fail
  have e1 := HW.out
  have e2 := HB0.out
  rw [← e1, ← e2]
  clear e1 e2 HW HB0
  have c0 : w1.cell? ⟨b0, 0, none⟩ = some (.int .i64 ty) := HB.out.cell 0
  have c1 : w1.cell? ⟨b0, 1, none⟩ = some (.slice A n c) := HB.out.cell 1
  have g2 : w1.cell? ⟨1, 0, none⟩ = some (errS s.type_) := HS.out.type_.1
  have g3 : w1.cell? ⟨2, 0, none⟩ = some (errS s.long) := HS.out.long.1
  cases hty : mtypes.contains ty with
  | false =>
    have HC := Lib.hid (show checkV s ty fs = errS s.type_ from by unfold checkV; rw [if_pos hty])
    have hi := isType_walk (w := w1) (n := ty)
    rw [hty] at hi
    have HI := Lib.hid hi
    clear hi hty
    go_upto_region 2 with (go_at_call 45; refine HI.out.mono ?_; rintro e w2 ⟨rfl, rfl⟩)
    go_wp2_with fail
    go_ret
    rw [HC.out]
    exact ⟨rfl, HU.out⟩
  | true =>
    have hi := isType_walk (w := w1) (n := ty)
    rw [hty] at hi
    have HI := Lib.hid hi
    have HTY := Lib.hid hty
    clear hi hty
    go_upto_region 3 with (go_at_call 45; refine HI.out.mono ?_; rintro e w1 ⟨rfl, rfl⟩)
    by_cases h24 : 24 < n
    · have HC := Lib.hid (show checkV s ty fs = errS s.long from by unfold checkV; rw [if_neg (by rw [HTY.out]; decide), if_pos (by rw [HNL.out]; exact h24)])
      have y1 : (24 : Int) < (n : Int) := by omega
      go_wp2_with fail
      go_ret
      rw [HC.out]
      exact ⟨rfl, HU.out⟩
    · have HC := Lib.hid (show checkV s ty fs = checkFsV s 0 fs from by unfold checkV; rw [if_neg (by rw [HTY.out]; decide), if_neg (by rw [HNL.out]; exact h24)])
      have y1 : ¬ ((24 : Int) < (n : Int)) := by omega
      clear h24 g2 g3
      go_wp2_with fail
      clear c0 c1
      go_loopg [3, 22] n (fun gk lv jv wr => ∃ (j : Nat) (last : Int), j + gk = n ∧ jv = .int .i64 (j : Int) ∧ lv = .int .i64 last ∧ checkFsV s last (fs.drop j) = checkFsV s 0 fs ∧ Turn nowhere w1 wr)
      case atStart => exact ⟨0, 0, by omega, rfl, rfl, rfl, Turn.refl _ _⟩
      obtain ⟨j, last, hjl, rfl, rfl, hck, htr⟩ := hrel
      have HJL := Lib.hid hjl
      have HCK := Lib.hid hck
      have HTR := Lib.hid htr
      clear hjl hck htr
      by_cases hlt : j < n
      · have y1 : (j : Int) < (n : Int) := by omega
        have HLT := Lib.hid hlt
        obtain ⟨f, hff⟩ : ∃ f, fs[j]? = some f := ⟨_, List.getElem?_eq_getElem (show j < fs.length from by rw [HNL.out]; exact hlt)⟩
        obtain ⟨bF, oF, rfl, hrow⟩ := HF.out.2.2 (by omega)
        have HRR := Lib.hid (show wr.rangeAt bF (oF + j * 2) (fldA f).toList from fun i v hv => (HTR.out.cell (World.block_lt_of_cell? _ _ (hrow j f hff i v hv)) (fun e => e)).trans (hrow j f hff i v hv))
        have HAT := Lib.hid (check_at hff HCK.out)
        clear hlt hff hrow
        go_upto_region 8 with fail
        refine wp_region_lit ?_
        refine wR (v := .pointer (some ⟨bF, oF + j * 2, none⟩)) rfl (gx_iaddr (i := j) (sz := 2) rfl rfl rfl Tryz.underlying22 size_field HLT.out (by omega)) ?_
        simp only [Act.put, zzA, zz0, zz1]
        refine wR (v := .agg (fldA f)) rfl (gx_loads rfl rfl HRR.out Tryz.underlying40 rfl (by rw [size_field]; rfl)) ?_
        simp only [Act.put, zzA, zz0, zz1]
        refine wR (v := .pointer (some ⟨wr.heap.size, 0, none⟩)) (w' := wr.alloc (.cells #[.int .i64 0, strV []] 40)) rfl (gx_alloc rfl (zero_field _)) ?_
        simp only [Act.put, zzA, zz0, zz1]
        have hb7 := Blk.new wr 40 #[.int .i64 0, strV []]
        have hu7 := HTR.out.alloc (.cells #[.int .i64 0, strV []] 40)
        obtain ⟨g7, hg7⟩ : ∃ g7, g7 = wr.heap.size := ⟨_, rfl⟩
        rw [← hg7] at hb7 ⊢
        have HG7 := Lib.hid (show w1.heap.size ≤ g7 from by rw [hg7]; exact HTR.out.size)
        clear hg7
        generalize wr.alloc (.cells #[.int .i64 0, strV []] 40) = w2 at *
        refine wpList_store_row rfl 40 (.tmp 5) (.tmp 25) rfl (fldA f) hb7 rfl rfl rfl (by rw [size_field]; rfl) (fldA_one f) ?_
        intro w3 hb3 hu3
        have HB7 := Lib.hid hb3
        have HU3 := Lib.hid (hu7.trans hu3 (fun k hk e => by
          have := HG7.out
          have e : k = g7 := e
          omega))
        clear hb7 hu7 hb3 hu3 HRR
        simp only [Act.put, zzA, zz0, zz1]
        have d0 : w3.cell? ⟨g7, 0, none⟩ = some (.int .i64 f.1) := HB7.out.cell 0
        have HTG := Lib.hid (tong_range (HT.out.turn HU3.out) (d := 1) (by decide))
        go_upto_region 9 with fail
        refine wp_region_lit ?_
        refine wR (v := .pointer (some ⟨5, 1 * 3, none⟩)) rfl (gx_aaddr (i := 1) (off := 0) rfl rfl rfl Tryz.underlying86 size_tongue (by omega) (by omega)) ?_
        simp only [Act.put, zzA, zz0, zz1]
        refine wR (v := tongV 1) rfl (gx_loads rfl rfl HTG.out Tryz.underlying70 rfl (by rw [size_tongue]; rfl)) ?_
        simp only [Act.put, zzA, zz0, zz1]
        refine wR (v := .pointer (some ⟨g7, 0, none⟩)) rfl (exec_field (off := 0) (d := 0) rfl rfl (by kernel_rfl)) ?_
        simp only [Act.put, zzA, zz0, zz1]
        refine wR (v := .int .i64 f.1) rfl (exec_load1 rfl rfl (by kernel_rfl) d0) ?_
        simp only [Act.put, zzA, zz0, zz1]
        refine wpList_op rfl fun K9 HK9 => ?_
        go_wp2_with fail
        refine (form_walk (s := s) (d := 1) (HT.out.turn HU3.out) (HS.out.turn HU3.out)).mono ?_
        rintro e w4 ⟨rfl, ht4⟩
        refine HK9.out _ _ ?_
        clear HK9
        try simp only [Act.put, zzA, zz0, zz1]
        have HU4 := Lib.hid (HU3.out.next ht4)
        have HB4 := Lib.hid (HB7.out.turn ht4 (fun e => e))
        clear ht4 HU3 HB7 d0 HTG
        cases hm : mform 1 f.1 with
        | none =>
          have hfr : formR s 1 f.1 = .tuple #[.agg #[.int .i64 0, .int .i64 0, .int .i64 0], feV f.1 s.field] := by unfold formR; rw [hm]; rfl
          have HBD := Lib.hid (show fieldBad last f = 52 from by unfold fieldBad; rw [hm])
          rw [hfr]
          clear hfr hm
          refine wR (v := .tuple #[.agg #[.int .i64 0, .int .i64 0, .int .i64 0], feV f.1 s.field]) rfl (exec_move rfl rfl) ?_
          simp only [Act.put, zzA, zz0, zz1]
          refine wR (v := .agg #[.int .i64 0, .int .i64 0, .int .i64 0]) rfl (ix_extract rfl rfl rfl) ?_
          simp only [Act.put, zzA, zz0, zz1]
          refine wR (v := feV f.1 s.field) rfl (ix_extract rfl rfl rfl) ?_
          simp only [Act.put, zzA, zz0, zz1]
          refine wR (v := .pointer (some ⟨w4.heap.size, 0, none⟩)) (w' := w4.alloc (.cells #[.int .i64 0, .int .i64 0, .int .i64 0] 49)) rfl (gx_alloc rfl (mzero_form _)) ?_
          simp only [Act.put, zzA, zz0, zz1]
          have hb8 := Blk.new w4 49 #[.int .i64 0, .int .i64 0, .int .i64 0]
          have hu8 := HU4.out.alloc (.cells #[.int .i64 0, .int .i64 0, .int .i64 0] 49)
          have hb78 := HB4.out.alloc (.cells #[.int .i64 0, .int .i64 0, .int .i64 0] 49)
          obtain ⟨g8, hg8⟩ : ∃ g8, g8 = w4.heap.size := ⟨_, rfl⟩
          rw [← hg8] at hb8 ⊢
          have HG8 := Lib.hid (show w1.heap.size ≤ g8 from by rw [hg8]; exact HU4.out.size)
          have HN8 := Lib.hid (show g7 ≠ g8 from by have := HB4.out.lt; omega)
          clear hg8
          generalize w4.alloc (.cells #[.int .i64 0, .int .i64 0, .int .i64 0] 49) = w5 at *
          refine wpList_store_row rfl 49 (.tmp 6) (.tmp 32) rfl #[.int .i64 0, .int .i64 0, .int .i64 0] hb8 rfl rfl rfl (by rw [size_form]; rfl) (fm3_one _ _ _) ?_
          intro w6 hb6 hu6
          have HB8 := Lib.hid hb6
          have HB7 := Lib.hid (hb78.turn hu6 (fun e => HN8.out e))
          have HU6 := Lib.hid (hu8.trans hu6 (fun k hk e => by
            have := HG8.out
            have e : k = g8 := e
            omega))
          clear hb8 hu8 hb78 hb6 hu6 HB4 HU4
          simp only [Act.put, zzA, zz0, zz1]
          unfold feV
          go_wp2_with fail
          go_ret
          rw [HC.out, HAT.out.2 (by rw [HBD.out]; decide), HBD.out]
          exact ⟨rfl, HU.out.next HU6.out⟩
        | some m =>
          have hfr : formR s 1 f.1 = .tuple #[fmV m, .nilIface] := by unfold formR; rw [hm]
          rw [hfr]
          clear hfr
          have HM := Lib.hid hm
          clear hm
          refine wR (v := .tuple #[fmV m, .nilIface]) rfl (exec_move rfl rfl) ?_
          simp only [Act.put, zzA, zz0, zz1]
          refine wR (v := fmV m) rfl (ix_extract rfl rfl rfl) ?_
          simp only [Act.put, zzA, zz0, zz1]
          refine wR (v := .nilIface) rfl (ix_extract rfl rfl rfl) ?_
          simp only [Act.put, zzA, zz0, zz1]
          refine wR (v := .pointer (some ⟨w4.heap.size, 0, none⟩)) (w' := w4.alloc (.cells #[.int .i64 0, .int .i64 0, .int .i64 0] 49)) rfl (gx_alloc rfl (mzero_form _)) ?_
          simp only [Act.put, zzA, zz0, zz1]
          have hb8 := Blk.new w4 49 #[.int .i64 0, .int .i64 0, .int .i64 0]
          have hu8 := HU4.out.alloc (.cells #[.int .i64 0, .int .i64 0, .int .i64 0] 49)
          have hb78 := HB4.out.alloc (.cells #[.int .i64 0, .int .i64 0, .int .i64 0] 49)
          obtain ⟨g8, hg8⟩ : ∃ g8, g8 = w4.heap.size := ⟨_, rfl⟩
          rw [← hg8] at hb8 ⊢
          have HG8 := Lib.hid (show w1.heap.size ≤ g8 from by rw [hg8]; exact HU4.out.size)
          have HN8 := Lib.hid (show g7 ≠ g8 from by have := HB4.out.lt; omega)
          clear hg8
          generalize w4.alloc (.cells #[.int .i64 0, .int .i64 0, .int .i64 0] 49) = w5 at *
          refine wpList_store_row rfl 49 (.tmp 6) (.tmp 32) rfl #[.int .i64 m.kind, .int .i64 m.size, .int .i64 m.code] hb8 rfl rfl rfl (by rw [size_form]; rfl) (fm3_one _ _ _) ?_
          intro w6 hb6 hu6
          have HB8 := Lib.hid hb6
          have HB7 := Lib.hid (hb78.turn hu6 (fun e => HN8.out e))
          have HU6 := Lib.hid (hu8.trans hu6 (fun k hk e => by
            have := HG8.out
            have e : k = g8 := e
            omega))
          clear hb8 hu8 hb78 hb6 hu6 HB4 HU4
          simp only [Act.put, zzA, zz0, zz1]
          have d0 : w6.cell? ⟨g7, 0, none⟩ = some (.int .i64 f.1) := HB7.out.cell 0
          go_upto_region 12 with fail
          refine wp_region_lit ?_
          refine wR (v := .pointer (some ⟨g7, 0, none⟩)) rfl (exec_field (off := 0) (d := 0) rfl rfl (by kernel_rfl)) ?_
          simp only [Act.put, zzA, zz0, zz1]
          refine wR (v := .int .i64 f.1) rfl (exec_load1 rfl rfl (by kernel_rfl) d0) ?_
          simp only [Act.put, zzA, zz0, zz1]
          refine wR (v := .int .i64 last) rfl (exec_move rfl rfl) ?_
          simp only [Act.put, zzA, zz0, zz1]
          by_cases hle : f.1 ≤ last
          · have HBD := Lib.hid (show fieldBad last f = 52 from by unfold fieldBad; rw [HM.out]; exact if_pos hle)
            refine wR (v := .bool true) rfl (ix_leq rfl rfl rfl (decide_eq_true hle)) ?_
            simp only [Act.put, zzA, zz0, zz1]
            clear hle
            have g7c : w6.cell? ⟨6, 0, none⟩ = some (errS s.field) := (HS.out.turn HU6.out).field.1
            have bf := build_fe f.1 (.pointer (some s.field)) w6
            unfold errS at g7c
            go_wp2_with fail
            go_ret
            rw [HC.out, HAT.out.2 (by rw [HBD.out]; decide), HBD.out]
            exact ⟨rfl, HU.out.next HU6.out⟩
          · have HLE := Lib.hid hle
            refine wR (v := .bool false) rfl (ix_leq rfl rfl rfl (decide_eq_false hle)) ?_
            simp only [Act.put, zzA, zz0, zz1]
            clear hle
            have d1 : w6.cell? ⟨g7, 1, none⟩ = some (strV f.2) := HB7.out.cell 1
            have HBD : Hid (fieldBad last f = if m.check f.2 = 0 then 0 else 41) := Lib.hid (by
              unfold fieldBad
              rw [HM.out]
              exact if_neg HLE.out)
            have HCW := Lib.hid (check_walk (f := m) (t := f.2) (HR.out.turn HU6.out))
            obtain ⟨k, hk⟩ : ∃ k, k = m.check f.2 := ⟨_, rfl⟩
            rw [← hk] at HBD HCW
            have HK := Lib.hid hk
            clear hk
            go_upto_region 14 with fail
            refine wp_region_lit ?_
            refine wR (v := fmV m) rfl (gx_loads rfl rfl (blk_range HB8.out) Tryz.underlying49 rfl (by rw [size_form]; rfl)) ?_
            simp only [Act.put, zzA, zz0, zz1]
            refine wR (v := .pointer (some ⟨g7, 1, none⟩)) rfl (exec_field (off := 0) (d := 1) rfl rfl (by kernel_rfl)) ?_
            simp only [Act.put, zzA, zz0, zz1]
            refine wR (v := strV f.2) rfl (exec_load1 rfl rfl (by kernel_rfl) d1) ?_
            simp only [Act.put, zzA, zz0, zz1]
            refine wpList_op rfl fun K9 HK9 => ?_
            go_wp2_with fail
            refine (HCW.out).mono ?_
            rintro e w7 ⟨rfl, ht7⟩
            refine HK9.out _ _ ?_
            clear HK9
            try simp only [Act.put, zzA, zz0, zz1]
            have HU7 := Lib.hid (HU6.out.next ht7)
            have d2 : w7.cell? ⟨g7, 0, none⟩ = some (.int .i64 f.1) := (HB7.out.turn ht7 (fun e => e)).cell 0
            clear ht7 d0 d1 HU6
            by_cases hk0 : k = 0
            · subst hk0
              have HB0 := Lib.hid (show fieldBad last f = 0 from by rw [HBD.out]; rfl)
              go_wp2_with fail
              go_roundg (gk - 1)
              case measure => have := HJL.out; have := HLT.out; omega
              case rel => exact ⟨j + 1, f.1, by have := HJL.out; have := HLT.out; omega, by go_num, rfl, HAT.out.1 HB0.out, HU7.out⟩
            · have HK41 := Lib.hid (show k = 41 from by
                have h1 := HK.out
                unfold Fm.check at h1
                obtain ⟨k1, s1, rfl, hk1, hs1, _⟩ := form_nf HM.out
                rw [if_pos (may_nf hk1 (by decide) hs1)] at h1
                split at h1
                · exact absurd h1 hk0
                · exact h1)
              have HB1 := Lib.hid (show fieldBad last f = 41 from by rw [HBD.out, if_neg hk0])
              have y2 : k = 41 := HK41.out
              subst y2
              clear hk0
              go_wp2_with (go_at_call 47; refine (wrap_walk (HS.out.turn HU7.out)).mono ?_; rintro e w8 ⟨rfl, rfl⟩)
              go_ret
              rw [HC.out, HAT.out.2 (by rw [HB1.out]; decide), HB1.out]
              exact ⟨rfl, HU.out.next HU7.out⟩
      · have y1 : ¬ ((j : Int) < (n : Int)) := by omega
        have HE := Lib.hid (show checkFsV s 0 fs = .nilIface from by
          have h := HCK.out
          rw [List.drop_eq_nil_iff.2 (by rw [HNL.out]; omega)] at h
          exact h.symm)
        clear hlt
        go_wp2_with fail
        go_ret
        rw [HC.out, HE.out]
        exact ⟨rfl, HU.out.next HTR.out⟩
end Go.Proofs.YticofobhkmabiaaGreatDoor
namespace Go.Proofs.YticofobhkmabiaaGreatDoor
open Go.RowKit
open Fdd
set_option linter.unusedVariables false
namespace Fdd
def AllD (l : List UInt8) : Prop := ∀ b ∈ l, 48 ≤ b.toNat ∧ b.toNat ≤ 57
theorem allD_tail {b : UInt8} {l : List UInt8} (h : AllD (b :: l)) : AllD l := fun x hx => h x (List.mem_cons_of_mem _ hx)
theorem allD_head {b : UInt8} {l : List UInt8} (h : AllD (b :: l)) : 48 ≤ b.toNat ∧ b.toNat ≤ 57 := h b (List.mem_cons_self ..)
theorem val_acc : ∀ (l : List UInt8) (a : Nat), l.foldl (fun a c => a * 10 + (c.toNat - 48)) a = a * 10 ^ l.length + val l
  | [], a => by simp [val]
  | c :: l, a => by
    unfold val
    rw [List.foldl_cons, List.foldl_cons, val_acc l, val_acc l, List.length_cons, Nat.pow_succ]
    have : (a * 10 + (c.toNat - 48)) * 10 ^ l.length = a * (10 ^ l.length * 10) + (c.toNat - 48) * 10 ^ l.length := by
      rw [Nat.add_mul, Nat.mul_assoc, Nat.mul_comm 10]
    rw [this, Nat.zero_mul, Nat.zero_add]
    omega
theorem val_cons (c : UInt8) (l : List UInt8) : val (c :: l) = (c.toNat - 48) * 10 ^ l.length + val l := by
  show (c :: l).foldl (fun a c => a * 10 + (c.toNat - 48)) 0 = _
  rw [List.foldl_cons, val_acc, Nat.zero_mul, Nat.zero_add]
theorem val_lt : ∀ {l : List UInt8}, AllD l → val l < 10 ^ l.length
  | [], _ => by simp [val]
  | c :: l, h => by
    have h1 := val_lt (allD_tail h)
    have h2 := allD_head h
    rw [val_cons, List.length_cons, Nat.pow_succ]
    have h3 : (c.toNat - 48) * 10 ^ l.length ≤ 9 * 10 ^ l.length := Nat.mul_le_mul_right _ (by omega)
    omega
theorem less_val : ∀ {x y : List UInt8}, x.length = y.length → AllD x → AllD y → (Op.bytesLess x y = true ↔ val x < val y)
  | [], [], _, _, _ => by simp [Op.bytesLess, val]
  | a :: x, b :: y, hl, hx, hy => by
    have ih := less_val (by simpa using hl) (allD_tail hx) (allD_tail hy)
    have l1 := val_lt (allD_tail hx)
    have l2 := val_lt (allD_tail hy)
    have d1 := allD_head hx
    have d2 := allD_head hy
    have hl' : x.length = y.length := by simpa using hl
    rw [val_cons, val_cons, hl']
    rw [hl'] at l1
    unfold Op.bytesLess
    rw [Bool.or_eq_true, Bool.and_eq_true, ih, decide_eq_true_iff, beq_iff_eq]
    rw [UInt8.lt_iff_toNat_lt]
    generalize 10 ^ y.length = p at *
    rcases Nat.lt_trichotomy a.toNat b.toNat with h | h | h
    · have h3 : (a.toNat - 48 + 1) * p ≤ (b.toNat - 48) * p := Nat.mul_le_mul_right _ (by omega)
      rw [Nat.add_mul, Nat.one_mul] at h3
      constructor
      · intro _; omega
      · intro _; exact .inl h
    · rw [h]
      obtain rfl : a = b := UInt8.toNat_inj.1 h
      constructor
      · rintro (h3 | h3)
        · omega
        · have := h3.2; omega
      · intro h3
        exact .inr ⟨rfl, by omega⟩
    · have h3 : (b.toNat - 48 + 1) * p ≤ (a.toNat - 48) * p := Nat.mul_le_mul_right _ (by omega)
      rw [Nat.add_mul, Nat.one_mul] at h3
      constructor
      · rintro (h4 | h4)
        · omega
        · have := h4.1; subst this; omega
      · intro _; omega
theorem val_inj : ∀ {x y : List UInt8}, x.length = y.length → AllD x → AllD y → val x = val y → x = y
  | [], [], _, _, _, _ => rfl
  | a :: x, b :: y, hl, hx, hy, he => by
    have l1 := val_lt (allD_tail hx)
    have l2 := val_lt (allD_tail hy)
    have d1 := allD_head hx
    have d2 := allD_head hy
    have hl' : x.length = y.length := by simpa using hl
    rw [val_cons, val_cons, hl'] at he
    rw [hl'] at l1
    generalize 10 ^ y.length = p at *
    rcases Nat.lt_trichotomy a.toNat b.toNat with h | h | h
    · have h3 : (a.toNat - 48 + 1) * p ≤ (b.toNat - 48) * p := Nat.mul_le_mul_right _ (by omega)
      rw [Nat.add_mul, Nat.one_mul] at h3
      omega
    · rw [h] at he
      obtain rfl : a = b := UInt8.toNat_inj.1 h
      rw [val_inj hl' (allD_tail hx) (allD_tail hy) (by omega)]
    · have h3 : (b.toNat - 48 + 1) * p ≤ (a.toNat - 48) * p := Nat.mul_le_mul_right _ (by omega)
      rw [Nat.add_mul, Nat.one_mul] at h3
      omega
theorem val_zeros : ∀ (k : Nat) (l : List UInt8), val (List.replicate k 48 ++ l) = val l
  | 0, l => by simp
  | k + 1, l => by
    rw [List.replicate_succ, List.cons_append, val_cons, val_zeros k l]
    simp
theorem val_snoc (l : List UInt8) (c : UInt8) : val (l ++ [c]) = val l * 10 + (c.toNat - 48) := by
  unfold val
  rw [List.foldl_append]
  rfl
theorem digit_nat {i : Nat} (h : i < 10) : (UInt8.ofNat (48 + i)).toNat = 48 + i := by
  rw [UInt8.toNat_ofNat']
  omega
theorem dec_val (u : Nat) : val (Lib.decDigits u) = u ∧ AllD (Lib.decDigits u) := by
  induction u using Nat.strongRecOn with
  | _ u ih =>
    by_cases h : u < 10
    · rw [Lib.decDigits_one h]
      constructor
      · rw [val_cons, digit_nat h]
        simp [val]
      · intro b hb
        obtain rfl := List.mem_singleton.1 hb
        rw [digit_nat h]
        omega
    · rw [Lib.decDigits, dif_neg h]
      obtain ⟨h1, h2⟩ := ih (u / 10) (by omega)
      constructor
      · rw [val_snoc, h1, digit_nat (by omega)]
        omega
      · intro b hb
        rcases List.mem_append.1 hb with hb | hb
        · exact h2 b hb
        · obtain rfl := List.mem_singleton.1 hb
          rw [digit_nat (by omega)]
          omega
theorem mem_dec {b : UInt8} (h : 48 ≤ b.toNat ∧ b.toNat ≤ 57) : b ∈ dec := by
  have hb : b = UInt8.ofNat b.toNat := by simp
  have hc : b.toNat = 48 ∨ b.toNat = 49 ∨ b.toNat = 50 ∨ b.toNat = 51 ∨ b.toNat = 52 ∨ b.toNat = 53 ∨ b.toNat = 54 ∨ b.toNat = 55 ∨ b.toNat = 56 ∨ b.toNat = 57 := by omega
  rcases hc with h | h | h | h | h | h | h | h | h | h <;> (rw [h] at hb; rw [hb]; decide)
theorem allD_only {l : List UInt8} (h : AllD l) : onlyOf l dec = true := by
  unfold onlyOf
  rw [List.all_eq_true]
  intro b hb
  simpa using mem_dec (h b hb)
end Fdd
/-- what Digits answers, where it answers well -/
structure DgOk (n size : Int) (x : List UInt8) : Prop where
  s1 : 1 ≤ size
  s2 : size ≤ 18
  len : x.length = size.toNat
  all : AllD x
  val : (val x : Int) = n
theorem digits_ok {n size : Int} (h : (digitsOf n size).2 = 0) : DgOk n size (digitsOf n size).1 := by
  unfold digitsOf at h ⊢
  split at h
  · cases h
  · split at h
    · cases h
    · rename_i h1 h2
      rw [if_neg h1, if_neg h2]
      have hn : Lib.itoa n = Lib.decDigits n.toNat := by
        unfold Lib.itoa
        rw [if_neg (by omega)]
      have hd := dec_val n.toNat
      refine ⟨by omega, by omega, ?_, ?_, ?_⟩
      · rw [List.length_append, List.length_replicate]
        omega
      · intro b hb
        rcases List.mem_append.1 hb with hb | hb
        · obtain rfl := (List.mem_replicate.1 hb).2
          decide
        · rw [hn] at hb
          exact hd.2 b hb
      · rw [val_zeros, hn, hd.1]
        omega
theorem digits_bad {n size : Int} (h : (digitsOf n size).2 ≠ 0) : (digitsOf n size).1 = [] := by
  unfold digitsOf at h ⊢
  split
  · rfl
  · split
    · rfl
    · rename_i h1 h2
      rw [if_neg h1, if_neg h2] at h
      exact absurd rfl h
theorem amount_ok {n size : Int} {x : List UInt8} (h : DgOk n size x) : amountOf x = (n, 0) := by
  unfold amountOf
  have := h.s1
  have := h.s2
  have := h.len
  rw [if_pos ⟨by omega, allD_only h.all, by rintro rfl; simp at *; omega⟩, h.val]
theorem amount_more {n size : Int} {x : List UInt8} (h : DgOk n size x) (hs : size < 18) : amountOf (48 :: x) = (n, 0) := by
  unfold amountOf
  have := h.s1
  have := h.s2
  have := h.len
  rw [if_pos ⟨by simp; omega, allD_only (fun b hb => by
    rcases List.mem_cons.1 hb with rfl | hb
    · decide
    · exact h.all b hb), by simp⟩, show val (48 :: x) = val x from by rw [val_cons]; simp, h.val]
theorem dg_less {a b size : Int} {x y : List UInt8} (h : DgOk a size x) (g : DgOk b size y) : Op.bytesLess x y = decide (a < b) := by
  rw [Bool.eq_iff_iff, less_val (h.len.trans g.len.symm) h.all g.all, decide_eq_true_iff, ← h.val, ← g.val]
  omega
theorem dg_same {a b size : Int} {x y : List UInt8} (h : DgOk a size x) (g : DgOk b size y) : (x == y) = decide (a = b) := by
  rw [Bool.eq_iff_iff, beq_iff_eq, decide_eq_true_iff]
  constructor
  · rintro rfl
    exact h.val.symm.trans g.val
  · rintro rfl
    exact val_inj (h.len.trans g.len.symm) h.all g.all (by have := h.val; have := g.val; omega)
end Go.Proofs.YticofobhkmabiaaGreatDoor
namespace Go.Proofs.YticofobhkmabiaaGreatDoor
open Go.RowKit
open Fdd
set_option linter.unusedVariables false
def PowT (W : World) : Prop := Lib.TabIs Tryz.prog W "internal/strconv.uint64pow10" .u64 Lib.pow10Tab
theorem gPow : Tryz.prog.globalNamed "internal/strconv.uint64pow10" = some 15 := by kernel_rfl
theorem PowT.turn {W W' : World} (h : PowT W) (ht : Turn nowhere W W') : PowT W' := Go.Joins.tab_stays gPow h (ht.below (Nat.le_refl _) (fun _ _ e=>e)) (Nat.le_refl _)
theorem itoa_at {n : Int} {W : World} (h0 : -9223372036854775808 ≤ n) (h1 : n ≤ 9223372036854775807) (h : PowT W) : ItoaAt n W := by
  refine (Any.strconv_Itoa Tryz.laysM171 n h0 h1 W h).mono ?_
  rintro e w' ⟨rfl, k, os, rfl⟩
  exact ⟨rfl, Turn.of_below (Lib.below_grow W.heap.size W (Nat.le_refl _) k os) (Nat.le_refl _)⟩
theorem exec_sless {W : World} {a : Act} {o : Oper} {x y : Operand} {l m : List UInt8} {t u : TypeId} (ho : o.op = .binOp .lss t x y u) (hx : a.eval x = strV l) (hy : a.eval y = strV m) : (execOp a.eval o).run Tryz.prog W = .ok (.value (.bool (Op.bytesLess l m))) W := by
  unfold execOp
  simp [ho, hx, hy, strV, eqGuard, binOp_string_lss]
theorem dg_walk {n size : Int} {W : World} (h0 : -9223372036854775808 ≤ n) (h1 : n ≤ 9223372036854775807) (h : PowT W) :
    Calls Tryz.prog 58 #[.int .i64 n, .int .i64 size] W fun e w' => (∃ x k, e = .returned (.tuple #[strV x, .int .i64 k]) ∧ (k = 0 → DgOk n size x) ∧ (k ≠ 0 → x = [])) ∧ Turn nowhere W w' := by
  refine (digits_walk n size W (fun W' ht => itoa_at h0 h1 (h.turn ht))).mono ?_
  rintro e w' ⟨rfl, ht⟩
  exact ⟨⟨_, _, rfl, digits_ok, digits_bad⟩, ht⟩
end Go.Proofs.YticofobhkmabiaaGreatDoor
namespace Go.Proofs.YticofobhkmabiaaGreatDoor.Fdd
set_option linter.unusedVariables false
/-! ### the check -/
def Good (fs : List Fld) : Prop := Rise (fs.map (·.1)) ∧ ∀ f ∈ fs, ∃ m, mform 1 f.1 = some m ∧ m.check f.2 = 0
theorem fieldBad_zero {last : Int} {f : Fld} : fieldBad last f = 0 ↔ last < f.1 ∧ ∃ m, mform 1 f.1 = some m ∧ m.check f.2 = 0 := by
  unfold fieldBad
  cases hm : mform 1 f.1 with
  | none =>
    simp only []
    constructor
    · intro h; cases h
    · rintro ⟨_, m, h, _⟩; cases h
  | some m =>
    simp only []
    constructor
    · intro h
      split at h
      · cases h
      · split at h
        · rename_i h1 h2
          exact ⟨by omega, m, rfl, h2⟩
        · cases h
    · rintro ⟨h1, m', h2, h3⟩
      injection h2 with h2
      subst h2
      rw [if_neg (by omega), if_pos h3]
theorem checkFs_iff : ∀ (fs : List Fld) (last : Int), checkFs last fs = 0 ↔ (∀ f ∈ fs, last < f.1) ∧ Good fs
  | [], last => by simp [checkFs, Good, Rise]
  | f :: r, last => by
    unfold checkFs
    constructor
    · intro h
      by_cases h0 : fieldBad last f = 0
      · rw [if_pos h0, checkFs_iff r] at h
        obtain ⟨h1, h2, h3⟩ := h
        obtain ⟨a1, a2⟩ := fieldBad_zero.1 h0
        refine ⟨fun x hx => ?_, List.pairwise_cons.2 ⟨fun y hy => ?_, h2⟩, fun x hx => ?_⟩
        · rcases List.mem_cons.1 hx with rfl | hx
          · exact a1
          · have := h1 x hx
            omega
        · obtain ⟨z, hz, rfl⟩ := List.mem_map.1 hy
          exact h1 z hz
        · rcases List.mem_cons.1 hx with rfl | hx
          · exact a2
          · exact h3 x hx
      · rw [if_neg h0] at h
        exact absurd h h0
    · rintro ⟨h1, h2, h3⟩
      obtain ⟨b1, b2⟩ := List.pairwise_cons.1 h2
      rw [if_pos (fieldBad_zero.2 ⟨h1 f (List.mem_cons_self ..), h3 f (List.mem_cons_self ..)⟩), checkFs_iff r]
      exact ⟨fun x hx => b1 _ (List.mem_map.2 ⟨x, hx, rfl⟩), b2, fun x hx => h3 x (List.mem_cons_of_mem _ hx)⟩
theorem good_nos {fs : List Fld} (h : Good fs) : Nos fs := ⟨h.1, fun f hf => by
  obtain ⟨m, h1, _⟩ := h.2 f hf
  obtain ⟨_, _, _, _, _, h2, _⟩ := form_nf h1
  exact h2⟩
theorem mcheck_zero {ty : Int} {fs : List Fld} : mcheck ty fs = 0 ↔ mtypes.contains ty = true ∧ fs.length ≤ 24 ∧ Good fs := by
  unfold mcheck
  constructor
  · intro h
    split at h
    · cases h
    · rename_i h1
      split at h
      · cases h
      · rename_i h2
        obtain ⟨_, h3⟩ := (checkFs_iff _ _).1 h
        exact ⟨by cases hc : mtypes.contains ty with | true => rfl | false => exact absurd hc h1, by omega, h3⟩
  · rintro ⟨h1, h2, h3⟩
    rw [if_neg (by rw [h1]; decide), if_neg (by omega), checkFs_iff]
    exact ⟨fun f hf => by have := (good_nos h3).2 f hf; omega, h3⟩
/-! ### the fields' bytes -/
def Said (d : Nat) (f : Fld) : Prop := ∃ m, mform d f.1 = some m ∧ m.check (say d f) = 0
def sayPut (d : Nat) (f : Fld) : List UInt8 := match mform d f.1 with
  | none => []
  | some m => m.put (say d f)
def body (d : Nat) (fs : List Fld) : List UInt8 := fs.foldr (fun f b => sayPut d f ++ b) []
theorem putFs_iff {d : Nat} : ∀ (fs : List Fld) (b r : List UInt8), putFs d b fs = some r ↔ r = b ++ body d fs ∧ ∀ f ∈ fs, Said d f
  | [], b, r => by
    simp only [putFs, body, List.foldr_nil, List.append_nil]
    constructor
    · intro h; injection h with h; exact ⟨h.symm, fun _ h => by cases h⟩
    · rintro ⟨rfl, _⟩; rfl
  | f :: l, b, r => by
    unfold putFs
    have hbody : body d (f :: l) = sayPut d f ++ body d l := rfl
    cases hm : mform d f.1 with
    | none =>
      simp only []
      constructor
      · intro h; cases h
      · rintro ⟨_, h⟩
        obtain ⟨m, h1, _⟩ := h f (List.mem_cons_self ..)
        rw [hm] at h1
        cases h1
    | some m =>
      have hs : sayPut d f = m.put (say d f) := by unfold sayPut; rw [hm]
      simp only []
      constructor
      · intro h
        split at h
        · rename_i hc
          obtain ⟨h1, h2⟩ := (putFs_iff l _ _).1 h
          refine ⟨by rw [h1, hbody, hs, List.append_assoc], fun x hx => ?_⟩
          rcases List.mem_cons.1 hx with rfl | hx
          · exact ⟨m, hm, hc⟩
          · exact h2 x hx
        · cases h
      · rintro ⟨h1, h2⟩
        obtain ⟨m', h3, h4⟩ := h2 f (List.mem_cons_self ..)
        rw [hm] at h3
        injection h3 with h3
        subst h3
        rw [if_pos h4, putFs_iff l]
        exact ⟨by rw [h1, hbody, hs, List.append_assoc], fun x hx => h2 x (List.mem_cons_of_mem _ hx)⟩
/-- what a message needs to be written so in a dialect -/
def Wr (d : Nat) (ty : Int) (fs : List Fld) : Prop := mtypes.contains ty = true ∧ fs.length ≤ 24 ∧ Good fs ∧ ∀ f ∈ fs, Said d f
def wire (d : Nat) (ty : Int) (fs : List Fld) : List UInt8 := (typeFm d).put (ver d ++ dig3 ty.toNat) ++ (mapPut d fs ++ body d fs)
theorem mencode_ok {d : Int} {ty : Int} {fs : List Fld} {b : List UInt8} : mencode d ty fs = .ok b ↔ (1 ≤ d ∧ d ≤ 3) ∧ Wr d.toNat ty fs ∧ b = wire d.toNat ty fs := by
  unfold mencode
  constructor
  · intro h
    split at h
    · rename_i hd
      split at h
      · rename_i hc
        obtain ⟨h1, h2, h3⟩ := mcheck_zero.1 hc
        split at h
        · cases h
        · rename_i r hr
          injection h with h
          obtain ⟨h4, h5⟩ := (putFs_iff _ _ _).1 hr
          refine ⟨hd, ⟨h1, h2, h3, h5⟩, ?_⟩
          rw [← h, h4, mhead_eq]
          unfold wire
          rw [List.append_assoc]
      · cases h
    · cases h
  · rintro ⟨hd, ⟨h1, h2, h3, h4⟩, rfl⟩
    rw [if_pos hd, if_pos (mcheck_zero.2 ⟨h1, h2, h3⟩), (putFs_iff _ _ _).2 ⟨rfl, h4⟩]
    simp only []
    rw [mhead_eq]
    unfold wire
    rw [List.append_assoc]
/-! ### types -/
theorem type_right {d : Nat} {ty : Int} (hd : 1 ≤ d ∧ d ≤ 3) (h : mtypes.contains ty = true) : (typeFm d).right (ver d ++ dig3 ty.toNat) = true ∧ mtype d (ver d ++ dig3 ty.toNat) = some ty := by
  have key : ∀ d : Fin 3, ∀ ty ∈ mtypes, (typeFm (d.val + 1)).right (ver (d.val + 1) ++ dig3 ty.toNat) = true ∧ mtype (d.val + 1) (ver (d.val + 1) ++ dig3 ty.toNat) = some ty := by decide +kernel
  have := key ⟨d - 1, by omega⟩ ty (by simpa using h)
  simpa [show d - 1 + 1 = d from by omega] using this
theorem dig3_of : ∀ a ∈ dec, ∀ b ∈ dec, ∀ c ∈ dec, dig3 (val [a, b, c]) = [a, b, c] := by decide +kernel
theorem ver_one (d : Nat) : ∃ v, ver d = [v] := by
  unfold ver
  split
  · exact ⟨_, rfl⟩
  · split <;> exact ⟨_, rfl⟩
theorem mtype_one {d : Nat} {t : List UInt8} {ty : Int} (h : mtype d t = some ty) (hl : t.length = 4) : t = ver d ++ dig3 ty.toNat ∧ mtypes.contains ty = true := by
  unfold mtype at h
  split at h
  · rename_i hp
    split at h
    · rename_i hq
      split at h
      · rename_i hc
        injection h with h
        subst h
        refine ⟨?_, hc⟩
        obtain ⟨v, hv⟩ := ver_one d
        rw [hv] at hp ⊢
        match t, hl with
        | [x, a, b, c], _ =>
          have hx : v = x := by simpa [List.isPrefixOf] using hp
          subst hx
          have ho := hq.2.1
          have e : List.drop 1 [v, a, b, c] = [a, b, c] := rfl
          rw [e] at ho ⊢
          rw [Int.toNat_natCast, dig3_of a (onlyOf_mem ho (by simp)) b (onlyOf_mem ho (by simp)) c (onlyOf_mem ho (by simp))]
          rfl
      · cases h
    · cases h
  · cases h
theorem takeType_back {d : Nat} {ty : Int} {rest : List UInt8} (hd : 1 ≤ d ∧ d ≤ 3) (h : mtypes.contains ty = true) : takeType d ((typeFm d).put (ver d ++ dig3 ty.toNat) ++ rest) = .ok (ty, rest) := by
  obtain ⟨h1, h2⟩ := type_right hd h
  unfold takeType
  rw [show typeFm d = nf 1 4 d from rfl] at h1 ⊢
  rw [fm_back (by decide) hd (by decide) h1]
  simp only []
  rw [h2]
theorem takeType_one {d : Nat} {ty : Int} {b rest : List UInt8} (hd : 1 ≤ d ∧ d ≤ 3) (h : takeType d b = .ok (ty, rest)) : (typeFm d).put (ver d ++ dig3 ty.toNat) ++ rest = b ∧ mtypes.contains ty = true := by
  unfold takeType at h
  split at h
  · cases h
  · rename_i t r hm
    split at h
    · cases h
    · rename_i n hn
      injection h with h
      injection h with h1 h2
      subst h1
      subst h2
      obtain ⟨h3, h4⟩ := fm_one (by decide) hd (by decide) (show (nf 1 4 d).take b = .ok (t, r) from hm)
      obtain ⟨h5, h6⟩ := mtype_one hn (right_n.1 h3).1
      rw [← h5]
      exact ⟨h4, h6⟩
/-! ### fields there and back -/
theorem said_nf {d : Nat} {f : Fld} (hd : 1 ≤ d ∧ d ≤ 3) (h : Said d f) : ∃ k s, mform d f.1 = some (nf k s d) ∧ (1 ≤ k ∧ k ≤ 5) ∧ (1 ≤ s ∧ s ≤ 64) ∧ (nf k s d).right (say d f) = true ∧ sayPut d f = (nf k s d).put (say d f) := by
  obtain ⟨m, hm, hc⟩ := h
  obtain ⟨k, s, rfl, hk, hs, _⟩ := form_nf hm
  exact ⟨k, s, hm, hk, hs, (check_zero hk hd hs).1 hc, by unfold sayPut; rw [hm]⟩
theorem takeFs_back {d : Nat} (hd : 1 ≤ d ∧ d ≤ 3) : ∀ (fs : List Fld) (rest : List UInt8), (∀ f ∈ fs, Said d f ∧ unsaid d f.1 ++ say d f = f.2) → takeFs d (fs.map (·.1)) (body d fs ++ rest) = .ok (fs, rest)
  | [], rest, _ => rfl
  | f :: l, rest, h => by
    obtain ⟨h1, h2⟩ := h f (List.mem_cons_self ..)
    obtain ⟨k, s, hm, hk, hs, hr, hp⟩ := said_nf hd h1
    have hbody : body d (f :: l) = sayPut d f ++ body d l := rfl
    rw [List.map_cons, hbody, hp, List.append_assoc]
    unfold takeFs
    rw [hm]
    simp only []
    rw [fm_back hk hd hs hr]
    simp only []
    rw [takeFs_back hd l rest fun x hx => h x (List.mem_cons_of_mem _ hx)]
    simp only []
    rw [h2]
theorem takeFs_one {d : Nat} (hd : 1 ≤ d ∧ d ≤ 3) : ∀ (l : List Int) (b : List UInt8) (fs : List Fld) (rest : List UInt8), takeFs d l b = .ok (fs, rest) → l = fs.map (·.1) ∧ body d fs ++ rest = b ∧ ∀ f ∈ fs, Said d f ∧ ∃ m, mform 1 f.1 = some m ∧ m.check f.2 = 0
  | [], b, fs, rest, h => by
    unfold takeFs at h
    injection h with h
    injection h with h1 h2
    subst h1
    subst h2
    exact ⟨rfl, rfl, fun _ h => by cases h⟩
  | no :: l, b, fs, rest, h => by
    unfold takeFs at h
    split at h
    · cases h
    · rename_i m hm
      split at h
      · cases h
      · rename_i t r ht
        split at h
        · cases h
        · rename_i fs2 r2 h2
          injection h with h
          injection h with e1 e2
          subst e1
          subst e2
          obtain ⟨i1, i2, i3⟩ := takeFs_one hd l r fs2 r2 h2
          obtain ⟨k, s, rfl, hk, hs, _⟩ := form_nf hm
          obtain ⟨g1, g2⟩ := fm_one hk hd hs ht
          have hsome : (mform 1 no).isSome = true := form_of (d := d) (by rw [hm]; rfl)
          obtain ⟨m1, hm1⟩ := Option.isSome_iff_exists.1 hsome
          obtain ⟨s1, s2⟩ := say_of hd hm hm1 g1
          refine ⟨by rw [i1]; rfl, ?_, fun x hx => ?_⟩
          · have hbody : body d ((no, unsaid d no ++ t) :: fs2) = sayPut d (no, unsaid d no ++ t) ++ body d fs2 := rfl
            have hsp : sayPut d (no, unsaid d no ++ t) = (nf k s d).put t := by
              unfold sayPut
              rw [hm]
              simp only []
              rw [s2]
            rw [hbody, hsp, List.append_assoc, i2, g2]
          · rcases List.mem_cons.1 hx with rfl | hx
            · exact ⟨⟨_, hm, by rw [s2, check_zero hk hd hs]; exact g1⟩, m1, hm1, s1⟩
            · exact i3 x hx
/-! ### how many bytes there may be -/
theorem sum_rows (g : Int → Nat) : ∀ (R : List (Int × Int × Int)) (l : List Int), Rise l → (∀ x ∈ l, ∃ r ∈ R, r.1 = x) → R.Pairwise (fun a b => a.1 < b.1) → (l.map g).sum ≤ (R.map fun r => g r.1).sum
  | [], [], _, _, _ => Nat.le_refl _
  | [], x :: l, _, h, _ => by obtain ⟨r, hr, _⟩ := h x (List.mem_cons_self ..); cases hr
  | r :: R, [], _, _, _ => Nat.zero_le _
  | r :: R, x :: l, hl, h, hR => by
    obtain ⟨l1, l2⟩ := List.pairwise_cons.1 hl
    obtain ⟨r1, r2⟩ := List.pairwise_cons.1 hR
    obtain ⟨q, hq, hqx⟩ := h x (List.mem_cons_self ..)
    rw [List.map_cons, List.map_cons, List.sum_cons, List.sum_cons]
    have hrest : ∀ y ∈ l, ∃ q ∈ R, q.1 = y := fun y hy => by
      obtain ⟨p, hp, hpy⟩ := h y (List.mem_cons_of_mem _ hy)
      rcases List.mem_cons.1 hp with rfl | hp
      · have := l1 y hy
        rcases List.mem_cons.1 hq with rfl | hq
        · omega
        · have := r1 q hq
          omega
      · exact ⟨p, hp, hpy⟩
    rcases List.mem_cons.1 hq with rfl | hq
    · have := sum_rows g R l l2 hrest r2
      rw [← hqx]
      omega
    · have := sum_rows g R (x :: l) hl (fun y hy => by
        rcases List.mem_cons.1 hy with rfl | hy
        · exact ⟨q, hq, hqx⟩
        · exact hrest y hy) r2
      rw [List.map_cons, List.sum_cons] at this
      omega
def capOf (no : Int) : Nat := match mfind no mrows with
  | none => 0
  | some r => 2 * r.2.toNat + 2
theorem mrows_rise : mrows.Pairwise (fun a b => a.1 < b.1) := by decide
theorem caps_all : (mrows.map fun r => capOf r.1).sum = 382 := by decide +kernel
theorem good_rows {fs : List Fld} (h : Good fs) : ∀ x ∈ fs.map (·.1), ∃ r ∈ mrows, r.1 = x := fun x hx => by
  obtain ⟨f, hf, rfl⟩ := List.mem_map.1 hx
  obtain ⟨m, h1, _⟩ := h.2 f hf
  unfold mform at h1
  obtain ⟨r, hr, _⟩ := Option.map_eq_some_iff.1 h1
  exact ⟨_, mfind_mem hr, rfl⟩
theorem good_len {fs : List Fld} (h : Good fs) : fs.length ≤ 17 := by
  have := sum_rows (fun _ => 1) mrows _ h.1 (good_rows h) mrows_rise
  have e : ∀ l : List Int, (l.map fun _ => 1).sum = l.length := fun l => by
    induction l with
    | nil => rfl
    | cons x l ih => rw [List.map_cons, List.sum_cons, ih, List.length_cons]; omega
  rw [e, List.length_map] at this
  exact this
theorem put_cap {k s c : Nat} {t : List UInt8} (hk : 1 ≤ k ∧ k ≤ 5) (hc : 1 ≤ c ∧ c ≤ 3) (hs : 1 ≤ s ∧ s ≤ 64) (hr : (nf k s c).right t = true) : ((nf k s c).put t).length ≤ 2 * s + 2 := by
  rw [fm_len hc hs hr]
  have one : ∀ (n : Nat) (a b : List UInt8), Pt.size ⟨n, a, b⟩ ≤ n := fun n a b => by
    unfold Pt.size
    split
    · show (n + 1) / 2 ≤ n
      omega
    · exact Nat.le_refl _
  have all : ∀ (kk : Int) (n : Nat), sizeAll (ptsOf kk (c : Int) n) ≤ (if kk = 4 then 2 * n else if kk = 5 then 1 + n else n) := fun kk n => by
    unfold ptsOf
    by_cases h3 : kk = 3
    · rw [if_pos h3, if_neg (by omega), if_neg (by omega)]
      exact one _ _ _
    · rw [if_neg h3]
      by_cases h4 : kk = 4
      · rw [if_pos h4, if_pos h4]
        exact one _ _ _
      · rw [if_neg h4, if_neg h4]
        by_cases h5 : kk = 5
        · rw [if_pos h5, if_pos h5]
          exact Nat.add_le_add (one _ _ _) (one _ _ _)
        · rw [if_neg h5, if_neg h5]
          exact one _ _ _
  split
  · rename_i h2
    subst h2
    obtain ⟨hl, _⟩ := ll_right hr
    have a1 := all 1 2
    have a2 := all 2 t.length
    rw [if_neg (by decide), if_neg (by decide)] at a1 a2
    omega
  · have a1 := all (k : Int) s
    split at a1
    · omega
    · split at a1 <;> omega
theorem body_cap {d : Nat} (hd : 1 ≤ d ∧ d ≤ 3) : ∀ fs : List Fld, (∀ f ∈ fs, Said d f) → (body d fs).length ≤ ((fs.map (·.1)).map capOf).sum
  | [], _ => Nat.le_refl _
  | f :: l, h => by
    have hbody : body d (f :: l) = sayPut d f ++ body d l := rfl
    obtain ⟨m, hm, hc⟩ := h f (List.mem_cons_self ..)
    obtain ⟨k, s, rfl, hk, hs, _, _, hf, _⟩ := form_nf hm
    have h1 := put_cap hk hd hs ((check_zero hk hd hs).1 hc)
    have hsp : sayPut d f = (nf k s d).put (say d f) := by unfold sayPut; rw [hm]
    have hcap : capOf f.1 = 2 * (s + (unsaid d f.1).length) + 2 := by
      unfold capOf
      rw [hf]
      show 2 * (((s + (unsaid d f.1).length : Nat) : Int)).toNat + 2 = _
      rw [Int.toNat_natCast]
    have ih := body_cap hd l fun x hx => h x (List.mem_cons_of_mem _ hx)
    rw [hbody, List.length_append, List.map_cons, List.map_cons, List.sum_cons, hsp, hcap]
    omega
theorem wire_len {d : Nat} {ty : Int} {fs : List Fld} (hd : 1 ≤ d ∧ d ≤ 3) (h : Wr d ty fs) : (wire d ty fs).length ≤ 500 := by
  obtain ⟨h1, _, h3, h4⟩ := h
  have a1 := put_cap (k := 1) (s := 4) (c := d) (by decide) hd (by decide) (type_right hd h1).1
  have a2 : (mapPut d fs).length ≤ 36 := by
    have hp : ∀ n, ((mapFm d).put (hexk 16 n)).length ≤ 18 := fun n => put_cap (k := 4) (s := 8) (c := d) (by decide) hd (by decide) (hex_right d n)
    unfold mapPut halves
    split
    · have := hp (half1 fs)
      simp only [List.foldr_cons, List.foldr_nil, List.append_nil]
      omega
    · have := hp (half1 fs ||| 2 ^ 63)
      have := hp (half2 fs)
      simp only [List.foldr_cons, List.foldr_nil, List.append_nil, List.length_append]
      omega
  have a3 := body_cap hd fs h4
  have a4 := sum_rows capOf mrows _ h3.1 (good_rows h3) mrows_rise
  rw [caps_all] at a4
  unfold wire
  rw [List.length_append, List.length_append]
  have : ((typeFm d).put (ver d ++ dig3 ty.toNat)).length ≤ 10 := a1
  omega
end Go.Proofs.YticofobhkmabiaaGreatDoor.Fdd
namespace Go.Proofs.YticofobhkmabiaaGreatDoor
open Go.RowKit
open Fdd
set_option linter.unusedVariables false
set_option linter.unusedSimpArgs false
set_option maxRecDepth 20000 in
theorem typeForm_walk {w : World} {d : Nat} : Calls Tryz.prog 59 #[tongV d] w fun e w' => e = .returned (fmV (typeFm d)) ∧ Turn nowhere w w' := by
  obtain ⟨v0, hv0⟩ := ver_one d
  have HV := Lib.hid (show (ver d).length = 1 from by rw [hv0]; rfl)
  clear hv0
  have hW : ∃ w1 b0 bt, w1 = (w.alloc (.cells (tongA d) 70)).alloc (.cells #[.int .i64 0, .int .i64 0, .int .i64 0] 49) ∧ bt = w.heap.size ∧ b0 = w.heap.size + 1 := ⟨_, _, _, rfl, rfl, rfl⟩
  obtain ⟨w1, b0, bt, hw1, hbt, hb0⟩ := hW
  have hU : Turn nowhere w w1 := by rw [hw1]; exact ((Turn.refl nowhere w).alloc _).alloc _
  have hBt : Blk w1 bt 70 (tongA d) := by rw [hw1, hbt]; exact (Blk.new w _ _).alloc _
  have hB0 : Blk w1 b0 49 #[.int .i64 0, .int .i64 0, .int .i64 0] := by
    rw [hw1, hb0]
    have := Blk.new (w.alloc (.cells (tongA d) 70)) 49 #[.int .i64 0, .int .i64 0, .int .i64 0]
    simpa using this
  have HG := Lib.hid hbt
  have HG0 := Lib.hid hb0
  have HU := Lib.hid hU
  have HBT := Lib.hid hBt
  have HB0 := Lib.hid hB0
  have HW := Lib.hid hw1
  clear hU hBt hB0 hw1 hbt hb0
  go_enter Tryz.func59, Tryz.ntmps59
  go_upto_region 1 with fail
  have e0 := HG0.out
  have e1 := HG.out
  have e2 := HW.out
  change Code.wp _ _ _ _ ((w.alloc (.cells (tongA d) 70)).alloc (.cells #[.int .i64 0, .int .i64 0, .int .i64 0] 49))
  rw [← e2, ← e0, ← e1]
  clear e0 e1 e2 HW
  have c0 : w1.cell? ⟨bt, 0, none⟩ = some (.int .i64 (d : Int)) := HBT.out.cell 0
  have c1 : w1.cell? ⟨bt, 1, none⟩ = some (strV (ver d)) := HBT.out.cell 1
  refine wp_region_lit ?_
  refine wR (v := .pointer (some ⟨bt, 1, none⟩)) rfl (exec_field (off := 0) (d := 1) rfl rfl (by kernel_rfl)) ?_
  simp only [Act.put, zzA, zz0, zz1]
  refine wR (v := strV (ver d)) rfl (exec_load1 rfl rfl (by kernel_rfl) c1) ?_
  simp only [Act.put, zzA, zz0, zz1]
  refine wR (v := .int .i64 ((ver d).length : Int)) rfl (exec_slen rfl rfl) ?_
  simp only [Act.put, zzA, zz0, zz1]
  refine wR (v := .int .i64 4) rfl (ix_add rfl rfl rfl (by rw [HV.out]; rfl) (by omega)) ?_
  simp only [Act.put, zzA, zz0, zz1]
  refine wR (v := .pointer (some ⟨bt, 0, none⟩)) rfl (exec_field (off := 0) (d := 0) rfl rfl (by kernel_rfl)) ?_
  simp only [Act.put, zzA, zz0, zz1]
  refine wR (v := .int .i64 (d : Int)) rfl (exec_load1 rfl rfl (by kernel_rfl) c0) ?_
  simp only [Act.put, zzA, zz0, zz1]
  refine wR (v := .agg #[.int .i64 1, .int .i64 4, .int .i64 (d : Int)]) rfl (exec_build3 rfl rfl rfl rfl (build_any _ _ _ _)) ?_
  simp only [Act.put, zzA, zz0, zz1]
  refine wpList_store_row rfl 49 (.tmp 2) (.tmp 9) rfl #[.int .i64 1, .int .i64 4, .int .i64 (d : Int)] HB0.out rfl rfl rfl (by rw [size_form]; rfl) (fm3_one _ _ _) ?_
  intro w2 hB2 hU2
  have HB2 := Lib.hid hB2
  have HU2 := Lib.hid (HU.out.trans hU2 (fun k hk e => by
    have := HG0.out
    have e : k = b0 := e
    omega))
  clear hB2 hU2 c0 c1
  simp only [Act.put, zzA, zz0, zz1]
  go_wp2_with fail
  refine bodyPost_ret (v := fmV (typeFm d)) (results_cell_row rfl _ _ b0 _ _ _ _ rfl HB2.out Tryz.underlying49 rfl (by rw [size_form]; rfl)) rfl ?_
  exact ⟨rfl, HU2.out⟩
set_option maxRecDepth 20000 in
theorem mapForm_walk {w : World} {d : Nat} : Calls Tryz.prog 61 #[tongV d] w fun e w' => e = .returned (fmV (mapFm d)) ∧ Turn nowhere w w' := by
  have hW : ∃ w1 b0 bt, w1 = (w.alloc (.cells (tongA d) 70)).alloc (.cells #[.int .i64 0, .int .i64 0, .int .i64 0] 49) ∧ bt = w.heap.size ∧ b0 = w.heap.size + 1 := ⟨_, _, _, rfl, rfl, rfl⟩
  obtain ⟨w1, b0, bt, hw1, hbt, hb0⟩ := hW
  have hU : Turn nowhere w w1 := by rw [hw1]; exact ((Turn.refl nowhere w).alloc _).alloc _
  have hBt : Blk w1 bt 70 (tongA d) := by rw [hw1, hbt]; exact (Blk.new w _ _).alloc _
  have hB0 : Blk w1 b0 49 #[.int .i64 0, .int .i64 0, .int .i64 0] := by
    rw [hw1, hb0]
    have := Blk.new (w.alloc (.cells (tongA d) 70)) 49 #[.int .i64 0, .int .i64 0, .int .i64 0]
    simpa using this
  have HG := Lib.hid hbt
  have HG0 := Lib.hid hb0
  have HU := Lib.hid hU
  have HBT := Lib.hid hBt
  have HB0 := Lib.hid hB0
  have HW := Lib.hid hw1
  clear hU hBt hB0 hw1 hbt hb0
  go_enter Tryz.func61, Tryz.ntmps61
  go_upto_region 1 with fail
  have e0 := HG0.out
  have e1 := HG.out
  have e2 := HW.out
  change Code.wp _ _ _ _ ((w.alloc (.cells (tongA d) 70)).alloc (.cells #[.int .i64 0, .int .i64 0, .int .i64 0] 49))
  rw [← e2, ← e0, ← e1]
  clear e0 e1 e2 HW
  have c0 : w1.cell? ⟨bt, 0, none⟩ = some (.int .i64 (d : Int)) := HBT.out.cell 0
  have c1 : w1.cell? ⟨bt, 1, none⟩ = some (strV (ver d)) := HBT.out.cell 1
  refine wp_region_lit ?_
  refine wR (v := .pointer (some ⟨bt, 0, none⟩)) rfl (exec_field (off := 0) (d := 0) rfl rfl (by kernel_rfl)) ?_
  simp only [Act.put, zzA, zz0, zz1]
  refine wR (v := .int .i64 (d : Int)) rfl (exec_load1 rfl rfl (by kernel_rfl) c0) ?_
  simp only [Act.put, zzA, zz0, zz1]
  refine wR (v := .agg #[.int .i64 4, .int .i64 8, .int .i64 (d : Int)]) rfl (exec_build3 rfl rfl rfl rfl (build_any _ _ _ _)) ?_
  simp only [Act.put, zzA, zz0, zz1]
  refine wpList_store_row rfl 49 (.tmp 2) (.tmp 5) rfl #[.int .i64 4, .int .i64 8, .int .i64 (d : Int)] HB0.out rfl rfl rfl (by rw [size_form]; rfl) (fm3_one _ _ _) ?_
  intro w2 hB2 hU2
  have HB2 := Lib.hid hB2
  have HU2 := Lib.hid (HU.out.trans hU2 (fun k hk e => by
    have := HG0.out
    have e : k = b0 := e
    omega))
  clear hB2 hU2 c0 c1
  simp only [Act.put, zzA, zz0, zz1]
  go_wp2_with fail
  refine bodyPost_ret (v := fmV (mapFm d)) (results_cell_row rfl _ _ b0 _ _ _ _ rfl HB2.out Tryz.underlying49 rfl (by rw [size_form]; rfl)) rfl ?_
  exact ⟨rfl, HU2.out⟩
theorem digits_type {ty : Int} (h : mtypes.contains ty = true) : digitsOf ty 3 = (dig3 ty.toNat, 0) ∧ 0 ≤ ty ∧ ty ≤ 810 := by
  have hb : ∀ ty ∈ mtypes, (100 : Int) ≤ ty ∧ ty ≤ 810 := by decide
  have h1 := hb ty (by simpa using h)
  obtain ⟨n, rfl⟩ : ∃ n : Nat, ty = (n : Int) := ⟨ty.toNat, by omega⟩
  have e : Lib.itoa (n : Int) = dig3 n := by
    unfold Lib.itoa
    rw [if_neg (by omega), Int.toNat_natCast, Lib.decDigits, dif_neg (by omega), Lib.decDigits, dif_neg (by omega), dig_one (by omega), Nat.div_div_eq_div_mul]
    rfl
  refine ⟨?_, by omega, by omega⟩
  unfold digitsOf
  rw [e, if_neg (by omega), if_neg (by simp [dig3])]
  rfl
theorem half_right {d : Nat} {fs : List Fld} (hd : 1 ≤ d ∧ d ≤ 3) {h : List UInt8} (hh : h ∈ halves fs) : (mapFm d).check h = 0 ∧ ((mapFm d).put h).length ≤ 18 := by
  have key : ∀ n, (mapFm d).check (hexk 16 n) = 0 ∧ ((mapFm d).put (hexk 16 n)).length ≤ 18 := fun n => ⟨(check_zero (by decide) hd (by decide)).2 (hex_right d n), put_cap (k := 4) (s := 8) (c := d) (by decide) hd (by decide) (hex_right d n)⟩
  unfold halves at hh
  split at hh
  · simp only [List.mem_singleton] at hh
    subst hh
    exact key _
  · simp only [List.mem_cons, List.not_mem_nil, or_false] at hh
    rcases hh with rfl | rfl <;> exact key _
theorem halves_len (fs : List Fld) : (halves fs).length ≤ 2 := by
  unfold halves
  split <;> simp
def hpart (d : Nat) (ty : Int) (fs : List Fld) (j : Nat) : List UInt8 := ((halves fs).take j).foldl (fun b h => b ++ (mapFm d).put h) ((typeFm d).put (ver d ++ dig3 ty.toNat))
theorem hpart_succ {d : Nat} {ty : Int} {fs : List Fld} {j : Nat} {h : List UInt8} (hj : (halves fs)[j]? = some h) : hpart d ty fs (j + 1) = hpart d ty fs j ++ (mapFm d).put h := by
  unfold hpart
  rw [List.take_add_one, hj, List.foldl_append]
  rfl
theorem hpart_len {d : Nat} {ty : Int} {fs : List Fld} (hd : 1 ≤ d ∧ d ≤ 3) (ht : mtypes.contains ty = true) : ∀ j, (hpart d ty fs j).length ≤ 10 + 18 * j
  | 0 => by
    have : ((typeFm d).put (ver d ++ dig3 ty.toNat)).length ≤ 10 := put_cap (k := 1) (s := 4) (c := d) (by decide) hd (by decide) (type_right hd ht).1
    unfold hpart
    simpa using this
  | j + 1 => by
    have ih := hpart_len (d := d) (ty := ty) (fs := fs) hd ht j
    cases hj : (halves fs)[j]? with
    | none =>
      have : hpart d ty fs (j + 1) = hpart d ty fs j := by
        unfold hpart
        rw [List.take_add_one, hj]
        simp
      rw [this]
      omega
    | some h =>
      have := (half_right (fs := fs) hd (List.mem_of_getElem? hj)).2
      rw [hpart_succ hj, List.length_append]
      omega
theorem ss_cell {w : World} {g i : Nat} {l : List (List UInt8)} {x : List UInt8} (h : Ss w g l) (hx : l[i]? = some x) : w.cell? ⟨g, i, none⟩ = some (strV x) := by
  obtain ⟨C, t, hb, hc⟩ := h
  rw [hb.cell]
  exact hc i x hx
theorem Ss.still {w w' : World} {g : Nat} {l : List (List UInt8)} (h : Ss w g l) (ht : Turn nowhere w w') : Ss w' g l := by
  obtain ⟨C, t, hb, hc⟩ := h
  exact ⟨C, t, hb.turn ht (fun e => e), hc⟩
theorem own_still {w w' : World} {B : Nat} {v : Value} {bs : List UInt8} (h : Own w B 5 v bs) (ht : Turn nowhere w w') : Own w' B 5 v bs := h.below (ht.below (Nat.le_refl _) (fun _ _ e=>e)) (Nat.le_refl _)
theorem own_len {w : World} {B n c : Nat} {A : Option Addr} {bs : List UInt8} (h : Own w B 5 (.slice A n c) bs) : bs.length = n := (own_bs h).1.1
theorem exec_slenS {a : Act} {o : Oper} {W : World} {x : Operand} {A : Option Addr} {n c : Nat} (ho : o.op = .call { callee := .builtin .len, args := #[x], argTypes := #[106] }) (hx : a.eval x = .slice A n c) : (execOp a.eval o).run Tryz.prog W = .ok (.value (.int .i64 (n : Int))) W := gx_len ho hx Tryz.underlying106
set_option maxRecDepth 20000 in
set_option maxHeartbeats 1000000 in
theorem putHead_walk {s : Sents} {w : World} {d : Nat} {ty : Int} {A : Option Addr} {n c : Nat} {fs : List Fld} (hd : 1 ≤ d ∧ d ≤ 3) (hty : mtypes.contains ty = true) (hno : ∀ f ∈ fs, 2 ≤ f.1 ∧ f.1 ≤ 97) (hs : Sen s w) (hr : RowsT w) (hp : PowT w) (hz : ZerT w) (hf : Fl w A n fs) :
    Calls Tryz.prog 36 #[tongV d, msgV ty A n c] w fun e w' => ∃ A' n' c', e = .returned (.tuple #[.slice A' n' c', .nilIface]) ∧ Own w' w.heap.size 5 (.slice A' n' c') (mhead d ty fs) ∧ Turn nowhere w w' := by
  have hW : ∃ w1 bm bt, w1 = (w.alloc (.cells (tongA d) 70)).alloc (.cells #[.int .i64 ty, .slice A n c] 24) ∧ bt = w.heap.size ∧ bm = w.heap.size + 1 := ⟨_, _, _, rfl, rfl, rfl⟩
  obtain ⟨w1, bm, bt, hw1, hbt, hbm⟩ := hW
  have hU : Turn nowhere w w1 := by rw [hw1]; exact ((Turn.refl nowhere w).alloc _).alloc _
  have hBt : Blk w1 bt 70 (tongA d) := by rw [hw1, hbt]; exact (Blk.new w _ _).alloc _
  have hBm : Blk w1 bm 24 #[.int .i64 ty, .slice A n c] := by
    rw [hw1, hbm]
    have := Blk.new (w.alloc (.cells (tongA d) 70)) 24 #[.int .i64 ty, .slice A n c]
    simpa using this
  obtain ⟨hdg, hty0, hty8⟩ := digits_type hty
  obtain ⟨hrt, _⟩ := type_right hd hty
  have HS := Lib.hid (hs.turn hU)
  have HR := Lib.hid (hr.turn hU)
  have HZ := Lib.hid (hz.turn hU)
  have HF := Lib.hid (hf.still hU)
  have hdw := digits_walk ty 3 w1 (fun W ht => itoa_at (by omega) (by omega) ((hp.turn hU).turn ht))
  rw [hdg] at hdw
  have HDW := Lib.hid hdw
  have HD := Lib.hid hd
  have HTY := Lib.hid hty
  have HNO := Lib.hid hno
  have HG := Lib.hid hbt
  have HG0 := Lib.hid hbm
  have HU := Lib.hid hU
  have HBT := Lib.hid hBt
  have HBM := Lib.hid hBm
  have HW := Lib.hid hw1
  have HCT := Lib.hid (show (typeFm d).check (ver d ++ dig3 ty.toNat) = 0 from (check_zero (by decide) hd (by decide)).2 hrt)
  clear hU hBt hBm hw1 hbt hbm hdg hty0 hty8 hrt hs hr hz hf hdw hd hty hno hp
  unfold msgV
  go_enter Tryz.func36, Tryz.ntmps36
  go_upto_region 1 with fail
  have e0 := HG0.out
  have e1 := HG.out
  have e2 := HW.out
  change Code.wp _ _ _ _ ((w.alloc (.cells (tongA d) 70)).alloc (.cells #[.int .i64 ty, .slice A n c] 24))
  rw [← e2, ← e0, ← e1]
  clear e0 e1 e2 HW
  have c0 : w1.cell? ⟨bm, 0, none⟩ = some (.int .i64 ty) := HBM.out.cell 0
  refine wp_region_lit ?_
  refine wR (v := .pointer (some ⟨bm, 0, none⟩)) rfl (exec_field (off := 0) (d := 0) rfl rfl (by kernel_rfl)) ?_
  simp only [Act.put, zzA, zz0, zz1]
  refine wR (v := .int .i64 ty) rfl (exec_load1 rfl rfl (by kernel_rfl) c0) ?_
  simp only [Act.put, zzA, zz0, zz1]
  refine wpList_op rfl fun K9 HK9 => ?_
  go_wp2_with fail
  refine (HDW.out).mono ?_
  rintro e w2 ⟨rfl, ht2⟩
  refine HK9.out _ _ ?_
  clear HK9
  try simp only [Act.put, zzA, zz0, zz1]
  refine wR (v := .tuple #[strV (dig3 ty.toNat), .int .i64 0]) rfl (exec_move rfl rfl) ?_
  simp only [Act.put, zzA, zz0, zz1]
  refine wR (v := strV (dig3 ty.toNat)) rfl (ix_extract rfl rfl rfl) ?_
  simp only [Act.put, zzA, zz0, zz1]
  refine wR (v := .int .i64 0) rfl (ix_extract rfl rfl rfl) ?_
  simp only [Act.put, zzA, zz0, zz1]
  refine wR (v := strV (dig3 ty.toNat)) rfl (gx_assign rfl rfl) ?_
  simp only [Act.put, zzA, zz0, zz1]
  refine wR (v := .int .i64 0) rfl (gx_assign rfl rfl) ?_
  simp only [Act.put, zzA, zz0, zz1]
  have HU2 := Lib.hid ht2
  clear ht2 c0 HDW
  obtain ⟨dg, hdg⟩ : ∃ dg, dg = dig3 ty.toNat := ⟨_, rfl⟩
  obtain ⟨vr, hvr⟩ : ∃ vr, vr = ver d := ⟨_, rfl⟩
  have HL3 := Lib.hid (show vr.length + dg.length ≤ 8388608 from by
    obtain ⟨v, hv⟩ := ver_one d
    rw [hvr, hdg, hv]
    simp [dig3])
  have HDG := Lib.hid hdg
  have HVR := Lib.hid hvr
  have HCT2 : Hid ((typeFm d).check (vr ++ dg) = 0) := Lib.hid (by rw [hdg, hvr]; exact HCT.out)
  rw [← hdg]
  clear hdg hvr HCT
  go_upto_region 2 with fail
  have hS0 : Blk w2.drew bt 70 (tongA d) := (HBT.out.turn (F := nowhere) HU2.out (fun e => e)).drew
  have HU3 : Hid (Turn nowhere w1 w2.drew) := Lib.hid HU2.out.drew
  clear HU2
  refine wp_region_alw (fun W => Blk W bt 70 (tongA d)) (by kernel_rfl) ?_
  generalize w2.drew = w3 at *
  refine alw_take (i := 0) (v := tongV d) rfl (by kernel_rfl) (by kernel_rfl) (fun _ _ _ h => h) (.inl ⟨by rfl, fun W hW => gx_loads rfl rfl (blk_range hW) Tryz.underlying70 rfl (by rw [size_tongue]; rfl)⟩) hS0 ?_
  simp only [Act.put, zzA, zz0, zz1]
  refine alw_take (i := 2) (v := .pointer (some ⟨bt, 1, none⟩)) rfl (by kernel_rfl) (by kernel_rfl) (fun _ _ _ h => h) (.inl ⟨by rfl, fun W hW => exec_field (off := 0) (d := 1) rfl rfl (by kernel_rfl)⟩) hS0 ?_
  simp only [Act.put, zzA, zz0, zz1]
  refine alw_take (i := 3) (v := strV vr) rfl (by kernel_rfl) (by kernel_rfl) (fun _ _ _ h => h) (.inl ⟨by rfl, fun W hW => exec_load1 rfl rfl (by kernel_rfl) (by rw [HVR.out]; exact hW.cell 1)⟩) hS0 ?_
  simp only [Act.put, zzA, zz0, zz1]
  refine alw_take (i := 4) (v := strV dg) rfl (by kernel_rfl) (by kernel_rfl) (fun _ _ _ h => h) (.inl ⟨by rfl, fun W hW => exec_move rfl rfl⟩) hS0 ?_
  simp only [Act.put, zzA, zz0, zz1]
  refine alw_take (i := 5) (v := strV (vr ++ dg)) rfl (by kernel_rfl) (by kernel_rfl) (fun _ _ _ h => h) (.inl ⟨by rfl, fun W hW => exec_sadd rfl rfl rfl HL3.out⟩) hS0 ?_
  simp only [Act.put, zzA, zz0, zz1]
  refine alw_step (i := 1) (by kernel_rfl) rfl rfl ?_
  intro K1 HK1
  go_wp2_with fail
  refine typeForm_walk.mono ?_
  rintro e w4 ⟨rfl, ht4⟩
  have hS1 : Blk w4 bt 70 (tongA d) := hS0.turn ht4 (fun e => e)
  refine HK1.out _ _ ⟨hS1, ?_⟩
  have HU4 := Lib.hid (HU3.out.next ht4)
  clear HK1 hS0 HU3 ht4
  try simp only [Act.put, zzA, zz0, zz1]
  refine alw_step (i := 6) (by kernel_rfl) rfl rfl ?_
  intro K1 HK1
  go_wp2_with fail
  refine (mput_walk (s := s) (no := 0) (f := typeFm d) (t := vr ++ dg) (b := []) (cap := 0) (HS.out.turn HU4.out) (HR.out.turn HU4.out) (bs_nil _ none) (by decide)).mono ?_
  rintro e w5 ⟨A5, n5, c5, rfl, ho5, ht5⟩
  have hS2 : Blk w5 bt 70 (tongA d) := hS1.turn ht5 (fun e => e)
  refine HK1.out _ _ ⟨hS2, ?_⟩
  have HU5 := Lib.hid (HU4.out.next ht5)
  have ho5b : Own w5 w1.heap.size 5 (.slice A5 n5 c5) (hpart d ty fs 0) := by
    have h0 : hpart d ty fs 0 = putR (typeFm d) (vr ++ dg) [] := by
      unfold hpart putR
      rw [HCT2.out, if_pos rfl, HVR.out, HDG.out]
      rfl
    rw [h0]
    exact own_base ho5 HU4.out.size
  have HO5 := Lib.hid ho5b
  have hwz : wrapV s 0 ((typeFm d).check (vr ++ dg)) = .nilIface := by rw [HCT2.out]; rfl
  rw [hwz]
  clear HK1 hS1 HU4 ho5 ho5b ht5 hwz
  try simp only [Act.put, zzA, zz0, zz1]
  refine alw_take (i := 7) (v := .tuple #[.slice A5 n5 c5, .nilIface]) rfl (by kernel_rfl) (by kernel_rfl) (fun _ _ _ h => h) (.inl ⟨by rfl, fun W hW => exec_move rfl rfl⟩) hS2 ?_
  simp only [Act.put, zzA, zz0, zz1]
  refine alw_take (i := 8) (v := .slice A5 n5 c5) rfl (by kernel_rfl) (by kernel_rfl) (fun _ _ _ h => h) (.inl ⟨by rfl, fun W hW => ix_extract rfl rfl rfl⟩) hS2 ?_
  simp only [Act.put, zzA, zz0, zz1]
  refine alw_take (i := 9) (v := .nilIface) rfl (by kernel_rfl) (by kernel_rfl) (fun _ _ _ h => h) (.inl ⟨by rfl, fun W hW => ix_extract rfl rfl rfl⟩) hS2 ?_
  simp only [Act.put, zzA, zz0, zz1]
  refine alw_take (i := 10) (v := .slice A5 n5 c5) rfl (by kernel_rfl) (by kernel_rfl) (fun _ _ _ h => h) (.inl ⟨by rfl, fun W hW => gx_assign rfl rfl⟩) hS2 ?_
  simp only [Act.put, zzA, zz0, zz1]
  refine alw_take (i := 11) (v := .nilIface) rfl (by kernel_rfl) (by kernel_rfl) (fun _ _ _ h => h) (.inl ⟨by rfl, fun W hW => gx_assign rfl rfl⟩) hS2 ?_
  simp only [Act.put, zzA, zz0, zz1]
  refine alw_done rfl ?_
  clear hS2
  refine NoPanic.normal ?_
  have c1 : w5.cell? ⟨bm, 1, none⟩ = some (.slice A n c) := (HBM.out.turn HU5.out (fun e => e)).cell 1
  go_upto_region 5 with fail
  refine wp_region_lit ?_
  refine wR (v := .pointer (some ⟨bm, 1, none⟩)) rfl (exec_field (off := 0) (d := 1) rfl rfl (by kernel_rfl)) ?_
  simp only [Act.put, zzA, zz0, zz1]
  refine wR (v := .slice A n c) rfl (exec_load1 rfl rfl (by kernel_rfl) c1) ?_
  simp only [Act.put, zzA, zz0, zz1]
  refine wpList_op rfl fun K9 HK9 => ?_
  go_wp2_with fail
  refine (mapTexts_walk (HF.out.still HU5.out) (HZ.out.turn HU5.out) HNO.out).mono ?_
  rintro e w6 ⟨gs, cs, rfl, hss, ht6⟩
  refine HK9.out _ _ ?_
  clear HK9
  try simp only [Act.put, zzA, zz0, zz1]
  have HSS := Lib.hid hss
  have HU6 := Lib.hid (HU5.out.next ht6)
  have HO6 := Lib.hid (own_still HO5.out ht6)
  obtain ⟨m, hm⟩ : ∃ m, m = (halves fs).length := ⟨_, rfl⟩
  rw [← hm]
  have HM := Lib.hid hm
  have HM2 := Lib.hid (show m ≤ 2 from by rw [hm]; exact halves_len fs)
  have y9 : (m : Int) ≤ 2 := by have := HM2.out; omega
  clear hss ht6 HU5 HO5 c1 hm
  refine wR (v := .int .i64 (m : Int)) rfl (exec_slenS rfl rfl) ?_
  simp only [Act.put, zzA, zz0, zz1]
  go_wp2_with fail
  go_loopg [8, 35] m (fun gk bv jv wr => ∃ (j : Nat) (A' : Option Addr) (n' c' : Nat), j + gk = m ∧ jv = .int .i64 (j : Int) ∧ bv = .slice A' n' c' ∧ Own wr w1.heap.size 5 (.slice A' n' c') (hpart d ty fs j) ∧ Turn nowhere w6 wr)
  case atStart => exact ⟨0, A5, n5, c5, by omega, rfl, rfl, HO6.out, Turn.refl _ _⟩
  obtain ⟨j, Aj, nj, cj, hjl, rfl, rfl, hoj, htr⟩ := hrel
  have HJL := Lib.hid hjl
  have HOJ := Lib.hid hoj
  have HTR := Lib.hid htr
  clear hjl hoj htr
  by_cases hlt : j < m
  · have y1 : (j : Int) < (m : Int) := by omega
    have HLT := Lib.hid hlt
    obtain ⟨x, hx⟩ : ∃ x, (halves fs)[j]? = some x := ⟨_, List.getElem?_eq_getElem (show j < (halves fs).length from by rw [← HM.out]; exact hlt)⟩
    have HX := Lib.hid hx
    have HCR := Lib.hid (half_right HD.out (List.mem_of_getElem? hx))
    have cx : wr.cell? ⟨gs, j, none⟩ = some (strV x) := ss_cell (HSS.out.still HTR.out) hx
    clear hlt hx
    go_upto_region 7 with fail
    refine wp_region_lit ?_
    refine wR (v := .pointer (some ⟨gs, j, none⟩)) rfl (gx_iaddr (i := j) (sz := 1) rfl rfl rfl Tryz.underlying106 (by kernel_rfl) HLT.out (by omega)) ?_
    simp only [Act.put, zzA, zz0, zz1]
    refine wR (v := strV x) rfl (exec_load1 rfl rfl (by kernel_rfl) cx) ?_
    simp only [Act.put, zzA, zz0, zz1]
    refine wR (v := strV x) rfl (gx_assign rfl rfl) ?_
    simp only [Act.put, zzA, zz0, zz1]
    have HBR := Lib.hid ((HBT.out.turn HU6.out (fun e => e)).turn HTR.out (fun e => e))
    have HUR := Lib.hid (HU6.out.next HTR.out)
    go_upto_region 8 with fail
    refine wp_region_lit ?_
    refine wR (v := .slice Aj nj cj) rfl (exec_move rfl rfl) ?_
    simp only [Act.put, zzA, zz0, zz1]
    refine wR (v := tongV d) rfl (gx_loads rfl rfl (blk_range HBR.out) Tryz.underlying70 rfl (by rw [size_tongue]; rfl)) ?_
    simp only [Act.put, zzA, zz0, zz1]
    refine wpList_op rfl fun K9 HK9 => ?_
    go_wp2_with fail
    refine (mapForm_walk).mono ?_
    rintro e w7 ⟨rfl, ht7⟩
    refine HK9.out _ _ ?_
    clear HK9
    try simp only [Act.put, zzA, zz0, zz1]
    refine wR (v := strV x) rfl (exec_move rfl rfl) ?_
    simp only [Act.put, zzA, zz0, zz1]
    refine wpList_op rfl fun K9 HK9 => ?_
    go_wp2_with fail
    refine (mput_walk (s := s) (no := 1) (f := mapFm d) (t := x) (HS.out.turn (HUR.out.next ht7)) (HR.out.turn (HUR.out.next ht7)) (own_bs (own_still HOJ.out ht7)).1 (by have h1 := own_len HOJ.out; have h2 := hpart_len (fs := fs) HD.out HTY.out j; have h3 := HLT.out; have h4 := HM2.out; omega)).mono ?_
    rintro e w8 ⟨A8, n8, c8, rfl, ho8, ht8⟩
    refine HK9.out _ _ ?_
    clear HK9
    try simp only [Act.put, zzA, zz0, zz1]
    have hwz : wrapV s 1 ((mapFm d).check x) = .nilIface := by rw [HCR.out.1]; rfl
    rw [hwz]
    have HO8 := Lib.hid (show Own w8 w1.heap.size 5 (.slice A8 n8 c8) (hpart d ty fs (j + 1)) from by
      rw [hpart_succ HX.out]
      unfold putR at ho8
      rw [if_pos HCR.out.1] at ho8
      exact own_base ho8 (Nat.le_trans HUR.out.size ht7.size))
    have HT8 := Lib.hid ((HTR.out.next ht7).next ht8)
    clear hwz ho8 ht7 ht8 cx HBR HUR
    refine wR (v := .tuple #[.slice A8 n8 c8, .nilIface]) rfl (exec_move rfl rfl) ?_
    simp only [Act.put, zzA, zz0, zz1]
    refine wR (v := .slice A8 n8 c8) rfl (ix_extract rfl rfl rfl) ?_
    simp only [Act.put, zzA, zz0, zz1]
    refine wR (v := .nilIface) rfl (ix_extract rfl rfl rfl) ?_
    simp only [Act.put, zzA, zz0, zz1]
    refine wR (v := .slice A8 n8 c8) rfl (gx_assign rfl rfl) ?_
    simp only [Act.put, zzA, zz0, zz1]
    refine wR (v := .nilIface) rfl (gx_assign rfl rfl) ?_
    simp only [Act.put, zzA, zz0, zz1]
    go_wp2_with fail
    go_roundg (gk - 1)
    case measure => have := HJL.out; have := HLT.out; omega
    case rel => exact ⟨j + 1, A8, n8, c8, by have := HJL.out; have := HLT.out; omega, by go_num, rfl, HO8.out, HT8.out⟩
  · have y1 : ¬ ((j : Int) < (m : Int)) := by omega
    have HE := Lib.hid (show hpart d ty fs j = mhead d ty fs from by
      unfold hpart
      rw [List.take_of_length_le (by rw [← HM.out]; omega)]
      rfl)
    clear hlt
    go_wp2_with fail
    go_ret2
    rw [← HE.out]
    exact ⟨_, _, _, rfl, own_base HOJ.out HU.out.size, (HU.out.next HU6.out).next HTR.out⟩
end Go.Proofs.YticofobhkmabiaaGreatDoor
namespace Go.Proofs.YticofobhkmabiaaGreatDoor
open Go.RowKit
open Fdd
set_option linter.unusedVariables false
set_option linter.unusedSimpArgs false
set_option maxRecDepth 20000 in
theorem hasPrefix_walk {w : World} {x p : List UInt8} : Calls Tryz.prog 95 #[strV x, strV p] w fun e w' => e = .returned (.bool (p.isPrefixOf x)) ∧ w' = w := by
  by_cases hl : p.length ≤ x.length
  · have hv : p.isPrefixOf x = (x.take p.length == p) := by
      rw [Bool.eq_iff_iff, List.isPrefixOf_iff_prefix, beq_iff_eq, List.prefix_iff_eq_take]
      exact ⟨fun h => h.symm, fun h => h.symm⟩
    rw [hv]
    have HL := Lib.hid hl
    clear hl hv
    go_enter Tryz.func95, Tryz.ntmps95
    go_upto_region 1 with fail
    refine wp_region_lit ?_
    refine wR (v := strV x) rfl (exec_move rfl rfl) ?_
    simp only [Act.put, zzA, zz0, zz1]
    refine wR (v := .int .i64 (x.length : Int)) rfl (exec_slen rfl rfl) ?_
    simp only [Act.put, zzA, zz0, zz1]
    refine wR (v := strV p) rfl (exec_move rfl rfl) ?_
    simp only [Act.put, zzA, zz0, zz1]
    refine wR (v := .int .i64 (p.length : Int)) rfl (exec_slen rfl rfl) ?_
    simp only [Act.put, zzA, zz0, zz1]
    refine wR (v := .bool true) rfl (ix_geq rfl rfl rfl (decide_eq_true (by have := HL.out; omega))) ?_
    simp only [Act.put, zzA, zz0, zz1]
    refine wR (v := .bool true) rfl (exec_move rfl rfl) ?_
    simp only [Act.put, zzA, zz0, zz1]
    refine wR (v := strV x) rfl (exec_move rfl rfl) ?_
    simp only [Act.put, zzA, zz0, zz1]
    refine wR (v := strV p) rfl (exec_move rfl rfl) ?_
    simp only [Act.put, zzA, zz0, zz1]
    refine wR (v := .int .i64 (p.length : Int)) rfl (exec_slen rfl rfl) ?_
    simp only [Act.put, zzA, zz0, zz1]
    refine wR (v := strV (x.take p.length)) rfl (exec_sto rfl rfl rfl HL.out) ?_
    simp only [Act.put, zzA, zz0, zz1]
    refine wR (v := strV p) rfl (exec_move rfl rfl) ?_
    simp only [Act.put, zzA, zz0, zz1]
    refine wR (v := .bool (x.take p.length == p)) rfl (exec_seql rfl rfl rfl) ?_
    simp only [Act.put, zzA, zz0, zz1]
    refine wR (v := .bool (x.take p.length == p)) rfl (ix_pickT rfl rfl rfl) ?_
    simp only [Act.put, zzA, zz0, zz1]
    refine wR (v := .bool (x.take p.length == p)) rfl (gx_assign rfl rfl) ?_
    simp only [Act.put, zzA, zz0, zz1]
    obtain ⟨q, hq⟩ : ∃ q, q = (x.take p.length == p) := ⟨_, rfl⟩
    rw [← hq]
    have HQ := Lib.hid hq
    clear hq
    go_wp2_with fail
    go_ret
    refine ⟨?_, rfl⟩
    first | (rw [← HQ.out]; done) | (rw [← HQ.out]; rfl)
  · have hv : p.isPrefixOf x = false := by
      cases h : p.isPrefixOf x with
      | false => rfl
      | true =>
        have := (List.isPrefixOf_iff_prefix.1 h).length_le
        exact absurd this hl
    rw [hv]
    have HL := Lib.hid hl
    clear hl hv
    go_enter Tryz.func95, Tryz.ntmps95
    go_upto_region 1 with fail
    refine wp_region_lit ?_
    refine wR (v := strV x) rfl (exec_move rfl rfl) ?_
    simp only [Act.put, zzA, zz0, zz1]
    refine wR (v := .int .i64 (x.length : Int)) rfl (exec_slen rfl rfl) ?_
    simp only [Act.put, zzA, zz0, zz1]
    refine wR (v := strV p) rfl (exec_move rfl rfl) ?_
    simp only [Act.put, zzA, zz0, zz1]
    refine wR (v := .int .i64 (p.length : Int)) rfl (exec_slen rfl rfl) ?_
    simp only [Act.put, zzA, zz0, zz1]
    refine wR (v := .bool false) rfl (ix_geq rfl rfl rfl (decide_eq_false (by have := HL.out; omega))) ?_
    simp only [Act.put, zzA, zz0, zz1]
    go_wp2_with fail
    go_ret
    exact ⟨rfl, rfl⟩
theorem prefix_le {p x : List UInt8} (h : p.isPrefixOf x = true) : p.length ≤ x.length := (List.isPrefixOf_iff_prefix.1 h).length_le
theorem trim_t {p x : List UInt8} (h : p.isPrefixOf x = true) : Lib.trimPrefix x p = x.drop p.length := by
  unfold Lib.trimPrefix Lib.hasPrefix
  rw [if_pos h]
theorem trim_f {p x : List UInt8} (h : p.isPrefixOf x = false) : Lib.trimPrefix x p = x := by
  unfold Lib.trimPrefix Lib.hasPrefix
  rw [if_neg (by rw [h]; decide)]
set_option maxRecDepth 20000 in
theorem trim_walk {w : World} {x p : List UInt8} : Calls Tryz.prog 39 #[strV x, strV p] w fun e w' => e = .returned (strV (Lib.trimPrefix x p)) ∧ w' = w := by
  have key : Calls Tryz.prog 63 #[strV x, strV p] w fun e w' => e = .returned (strV (Lib.trimPrefix x p)) ∧ w' = w := by
    have hw := hasPrefix_walk (w := w) (x := x) (p := p)
    cases hp : p.isPrefixOf x with
    | true =>
      rw [hp] at hw
      have HW := Lib.hid hw
      have HL := Lib.hid (prefix_le hp)
      rw [trim_t hp]
      clear hw hp
      go_enter Tryz.func63, Tryz.ntmps63
      go_upto_region 2 with (go_at_call 95; refine HW.out.mono ?_; rintro e w1 ⟨rfl, rfl⟩)
      refine wp_region_lit ?_
      refine wR (v := strV x) rfl (exec_move rfl rfl) ?_
      simp only [Act.put, zzA, zz0, zz1]
      refine wR (v := strV p) rfl (exec_move rfl rfl) ?_
      simp only [Act.put, zzA, zz0, zz1]
      refine wR (v := .int .i64 (p.length : Int)) rfl (exec_slen rfl rfl) ?_
      simp only [Act.put, zzA, zz0, zz1]
      refine wR (v := strV (x.drop p.length)) rfl (exec_sfrom rfl rfl rfl HL.out) ?_
      simp only [Act.put, zzA, zz0, zz1]
      refine wR (v := strV (x.drop p.length)) rfl (gx_assign rfl rfl) ?_
      simp only [Act.put, zzA, zz0, zz1]
      obtain ⟨q, hq⟩ : ∃ q, q = x.drop p.length := ⟨_, rfl⟩
      rw [← hq]
      have HQ := Lib.hid hq
      clear hq
      go_wp2_with fail
      go_ret
      refine ⟨?_, rfl⟩
      first | (rw [← HQ.out]; done) | (rw [← HQ.out]; rfl)
    | false =>
      rw [hp] at hw
      have HW := Lib.hid hw
      rw [trim_f hp]
      clear hw hp
      go_enter Tryz.func63, Tryz.ntmps63
      go_wp2_with (go_at_call 95; refine HW.out.mono ?_; rintro e w1 ⟨rfl, rfl⟩)
      go_ret
      exact ⟨rfl, rfl⟩
  have HK := Lib.hid key
  clear key
  generalize Lib.trimPrefix x p = q at *
  go_enter Tryz.func39, Tryz.ntmps39
  go_wp2_with (go_at_call 63; refine HK.out.mono ?_; rintro e w1 ⟨rfl, rfl⟩)
  go_ret
  exact ⟨rfl, rfl⟩
set_option maxRecDepth 20000 in
theorem cut_walk {w : World} {x p : List UInt8} : Calls Tryz.prog 80 #[strV x, strV p] w fun e w' => e = .returned (.tuple #[strV (Lib.trimPrefix x p), .bool (p.isPrefixOf x)]) ∧ w' = w := by
  have key : Calls Tryz.prog 100 #[strV x, strV p] w fun e w' => e = .returned (.tuple #[strV (Lib.trimPrefix x p), .bool (p.isPrefixOf x)]) ∧ w' = w := by
    have hw := hasPrefix_walk (w := w) (x := x) (p := p)
    cases hp : p.isPrefixOf x with
    | true =>
      rw [hp] at hw
      have HW := Lib.hid hw
      have HL := Lib.hid (prefix_le hp)
      rw [trim_t hp]
      clear hw hp
      go_enter Tryz.func100, Tryz.ntmps100
      go_upto_region 3 with (go_at_call 95; refine HW.out.mono ?_; rintro e w1 ⟨rfl, rfl⟩)
      refine wp_region_lit ?_
      refine wR (v := strV x) rfl (exec_move rfl rfl) ?_
      simp only [Act.put, zzA, zz0, zz1]
      refine wR (v := strV p) rfl (exec_move rfl rfl) ?_
      simp only [Act.put, zzA, zz0, zz1]
      refine wR (v := .int .i64 (p.length : Int)) rfl (exec_slen rfl rfl) ?_
      simp only [Act.put, zzA, zz0, zz1]
      refine wR (v := strV (x.drop p.length)) rfl (exec_sfrom rfl rfl rfl HL.out) ?_
      simp only [Act.put, zzA, zz0, zz1]
      refine wR (v := strV (x.drop p.length)) rfl (gx_assign rfl rfl) ?_
      simp only [Act.put, zzA, zz0, zz1]
      refine wR (v := .bool true) rfl (gx_assign rfl rfl) ?_
      simp only [Act.put, zzA, zz0, zz1]
      obtain ⟨q, hq⟩ : ∃ q, q = x.drop p.length := ⟨_, rfl⟩
      rw [← hq]
      have HQ := Lib.hid hq
      clear hq
      go_wp2_with fail
      go_ret2
      refine ⟨?_, rfl⟩
      first | (rw [← HQ.out]; done) | (rw [← HQ.out]; rfl)
    | false =>
      rw [hp] at hw
      have HW := Lib.hid hw
      rw [trim_f hp]
      clear hw hp
      go_enter Tryz.func100, Tryz.ntmps100
      go_wp2_with (go_at_call 95; refine HW.out.mono ?_; rintro e w1 ⟨rfl, rfl⟩)
      go_ret2
      exact ⟨rfl, rfl⟩
  have HK := Lib.hid key
  clear key
  generalize Lib.trimPrefix x p = q at *
  generalize p.isPrefixOf x = b at *
  go_enter Tryz.func80, Tryz.ntmps80
  go_wp2_with (go_at_call 100; refine HK.out.mono ?_; rintro e w1 ⟨rfl, rfl⟩)
  go_ret2
  exact ⟨rfl, rfl⟩
end Go.Proofs.YticofobhkmabiaaGreatDoor
namespace Go.Proofs.YticofobhkmabiaaGreatDoor.Fdd
set_option linter.unusedVariables false
theorem wr_fields {d : Nat} {ty : Int} {fs : List Fld} (hd : 1 ≤ d ∧ d ≤ 3) (h : Wr d ty fs) : ∀ f ∈ fs, Said d f ∧ unsaid d f.1 ++ say d f = f.2 := fun f hf => by
  obtain ⟨_, _, h3, h4⟩ := h
  obtain ⟨m, hm, hc⟩ := h4 f hf
  obtain ⟨m1, hm1, hc1⟩ := h3.2 f hf
  exact ⟨⟨m, hm, hc⟩, say_back hd hm hm1 hc1 hc⟩
theorem forms_all {d : Nat} {fs : List Fld} (h : ∀ f ∈ fs, (mform d f.1).isSome = true) : allForms d (fs.map (·.1)) = true := by
  unfold allForms
  rw [List.all_eq_true]
  intro x hx
  obtain ⟨f, hf, rfl⟩ := List.mem_map.1 hx
  exact h f hf
theorem toNat_in {d : Int} (h : 1 ≤ d ∧ d ≤ 3) : 1 ≤ d.toNat ∧ d.toNat ≤ 3 := by omega
theorem mdecode_wire {d : Int} {ty : Int} {fs : List Fld} (hd : 1 ≤ d ∧ d ≤ 3) (h : Wr d.toNat ty fs) (rest : List UInt8) (hl : (wire d.toNat ty fs ++ rest).length ≤ 512 ∨ rest = []) : mdecode d (wire d.toNat ty fs ++ rest) = if rest = [] then .ok (ty, fs) else .error 54 := by
  have hd2 := toNat_in hd
  have hw := wire_len hd2 h
  have htake : (wire d.toNat ty fs ++ rest).take 512 = wire d.toNat ty fs ++ rest := List.take_of_length_le (by
    rcases hl with h | rfl
    · exact h
    · rw [List.append_nil]; omega)
  unfold mdecode
  rw [if_pos hd, htake]
  unfold wire
  rw [List.append_assoc, takeType_back hd2 h.1]
  simp only []
  rw [List.append_assoc, takeMap_back hd2 (good_nos h.2.2.1)]
  simp only []
  rw [if_pos (forms_all fun f hf => by obtain ⟨⟨m, hm, _⟩, _⟩ := wr_fields hd2 h f hf; rw [hm]; rfl), takeFs_back hd2 fs rest (wr_fields hd2 h)]
/-- Decode of Encode -/
theorem mdecode_back {d : Int} {ty : Int} {fs : List Fld} {b : List UInt8} (h : mencode d ty fs = .ok b) : mdecode d b = .ok (ty, fs) := by
  obtain ⟨hd, hw, rfl⟩ := mencode_ok.1 h
  have := mdecode_wire hd hw [] (.inr rfl)
  rw [List.append_nil, if_pos rfl] at this
  exact this
/-- Encode of Decode -/
theorem mdecode_one {d : Int} {ty : Int} {fs : List Fld} {b : List UInt8} (h : mdecode d b = .ok (ty, fs)) : mencode d ty fs = .ok b := by
  unfold mdecode at h
  split at h
  · rename_i hd
    have hd2 := toNat_in hd
    split at h
    · cases h
    · rename_i ty1 b1 h1
      split at h
      · cases h
      · rename_i l b2 h2
        split at h
        · split at h
          · cases h
          · rename_i fs1 b3 h3
            split at h
            · rename_i hb3
              injection h with h
              injection h with e1 e2
              subst e1
              subst e2
              subst hb3
              obtain ⟨g1, g2⟩ := takeType_one hd2 h1
              obtain ⟨g3, g4, g5⟩ := takeFs_one hd2 l b2 _ _ h3
              subst g3
              obtain ⟨g6, g7⟩ := takeMap_one hd2 h2 fun f hf => by
                obtain ⟨⟨m, hm, _⟩, _⟩ := g5 f hf
                obtain ⟨_, _, _, _, _, h, _⟩ := form_nf hm
                exact h
              have hgood : Good fs1 := ⟨g7, fun f hf => (g5 f hf).2⟩
              have hwr : Wr d.toNat ty1 fs1 := ⟨g2, by have := good_len hgood; omega, hgood, fun f hf => (g5 f hf).1⟩
              have hb : b.take 512 = wire d.toNat ty1 fs1 := by
                unfold wire
                rw [List.append_nil] at g4
                rw [g4, g6, g1]
              have hlen := wire_len hd2 hwr
              rw [← hb, List.length_take] at hlen
              rw [List.take_of_length_le (by omega)] at hb
              exact mencode_ok.2 ⟨hd, hwr, hb⟩
            · cases h
        · cases h
  · cases h
theorem mencode_inj {d : Int} {ty ty' : Int} {fs fs' : List Fld} {b : List UInt8} (h : mencode d ty fs = .ok b) (h' : mencode d ty' fs' = .ok b) : ty = ty' ∧ fs = fs' := by
  have := mdecode_back h
  rw [mdecode_back h'] at this
  injection this with this
  injection this with e1 e2
  exact ⟨e1.symm, e2.symm⟩
/-! ### cut messages -/
theorem takeFs_short {d : Nat} (hd : 1 ≤ d ∧ d ≤ 3) : ∀ (fs : List Fld) (i : Nat), (∀ f ∈ fs, Said d f ∧ unsaid d f.1 ++ say d f = f.2) → i < (body d fs).length → takeFs d (fs.map (·.1)) ((body d fs).take i) = .error 43
  | [], i, _, hi => by cases hi
  | f :: l, i, h, hi => by
    obtain ⟨h1, h2⟩ := h f (List.mem_cons_self ..)
    obtain ⟨k, s, hm, hk, hs, hr, hp⟩ := said_nf hd h1
    have hbody : body d (f :: l) = sayPut d f ++ body d l := rfl
    rw [hbody, hp] at hi ⊢
    rw [List.map_cons]
    unfold takeFs
    rw [hm]
    simp only []
    by_cases hlt : i < ((nf k s d).put (say d f)).length
    · rw [List.take_append_of_le_length (by omega), fm_short hk hd hs hr hlt]
    · rw [List.take_append, List.take_of_length_le (by omega), fm_back hk hd hs hr]
      simp only []
      rw [takeFs_short hd l _ (fun x hx => h x (List.mem_cons_of_mem _ hx)) (by rw [List.length_append] at hi; omega)]
theorem takeHalf_short {d n i : Nat} (hd : 1 ≤ d ∧ d ≤ 3) (hi : i < ((mapFm d).put (hexk 16 n)).length) : takeHalf d (((mapFm d).put (hexk 16 n)).take i) = .error 43 := by
  unfold takeHalf
  rw [show mapFm d = nf 4 8 d from rfl] at hi ⊢
  rw [fm_short (by decide) hd (by decide) (hex_right d n) hi]
theorem takeMap_short {d i : Nat} {fs : List Fld} (hd : 1 ≤ d ∧ d ≤ 3) (h : Nos fs) (hi : i < (mapPut d fs).length) : takeMap d ((mapPut d fs).take i) = .error 43 := by
  have l1 := half1_lt h.2
  have l2 := half2_lt h.2
  unfold mapPut halves at hi ⊢
  by_cases h0 : half2 fs = 0
  · rw [if_pos h0] at hi ⊢
    simp only [List.foldr_cons, List.foldr_nil, List.append_nil] at hi ⊢
    unfold takeMap
    rw [takeHalf_short hd hi]
  · rw [if_neg h0] at hi ⊢
    obtain ⟨a1, a2, a3⟩ := or_top l1
    simp only [List.foldr_cons, List.foldr_nil, List.append_nil] at hi ⊢
    unfold takeMap
    by_cases hlt : i < ((mapFm d).put (hexk 16 (half1 fs ||| 2 ^ 63))).length
    · rw [List.take_append_of_le_length (by omega), takeHalf_short hd hlt]
    · rw [List.take_append, List.take_of_length_le (by omega), takeHalf_back hd a3]
      simp only []
      rw [if_neg (by rw [a2]; decide), takeHalf_short hd (by rw [List.length_append] at hi; omega)]
theorem mdecode_short {d : Int} {ty : Int} {fs : List Fld} {b : List UInt8} {i : Nat} (h : mencode d ty fs = .ok b) (hi : i < b.length) : mdecode d (b.take i) = .error 43 := by
  obtain ⟨hd, hw, rfl⟩ := mencode_ok.1 h
  have hd2 := toNat_in hd
  have hl := wire_len hd2 hw
  unfold mdecode
  rw [if_pos hd, List.take_of_length_le (by rw [List.length_take]; omega)]
  unfold wire at hi ⊢
  obtain ⟨hr, _⟩ := type_right hd2 hw.1
  by_cases h1 : i < ((typeFm d.toNat).put (ver d.toNat ++ dig3 ty.toNat)).length
  · have : takeType d.toNat (((typeFm d.toNat).put (ver d.toNat ++ dig3 ty.toNat)).take i) = .error 43 := by
      unfold takeType
      rw [show typeFm d.toNat = nf 1 4 d.toNat from rfl] at h1 hr ⊢
      rw [fm_short (by decide) hd2 (by decide) hr h1]
    rw [List.take_append_of_le_length (by omega), this]
  · rw [List.take_append, List.take_of_length_le (by omega), takeType_back hd2 hw.1]
    simp only []
    rw [List.length_append] at hi
    generalize hj : i - ((typeFm d.toNat).put (ver d.toNat ++ dig3 ty.toNat)).length = j
    by_cases h2 : j < (mapPut d.toNat fs).length
    · rw [List.take_append_of_le_length (by omega), takeMap_short hd2 (good_nos hw.2.2.1) h2]
    · rw [List.take_append, List.take_of_length_le (by omega), takeMap_back hd2 (good_nos hw.2.2.1)]
      simp only []
      rw [List.length_append] at hi
      rw [if_pos (forms_all fun f hf => by obtain ⟨⟨m, hm, _⟩, _⟩ := wr_fields hd2 hw f hf; rw [hm]; rfl), takeFs_short hd2 fs _ (wr_fields hd2 hw) (by omega)]
/-! ### other dialects -/
theorem type_first : ∀ d : Fin 3, ∀ e : Fin 3, ∀ s ∈ mtypes, ∀ t ∈ mtypes, d ≠ e → ((typeFm (d.val + 1)).put (ver (d.val + 1) ++ dig3 s.toNat)).head? ≠ ((typeFm (e.val + 1)).put (ver (e.val + 1) ++ dig3 t.toNat)).head? ∧ ((typeFm (d.val + 1)).put (ver (d.val + 1) ++ dig3 s.toNat)).head?.isSome = true := by decide +kernel
theorem head_app {α : Type} {a b : List α} (h : a.head?.isSome = true) : (a ++ b).head? = a.head? := by
  cases a with
  | nil => cases h
  | cons x a => rfl
theorem mdecode_apart {d e : Int} {ty ty' : Int} {fs fs' : List Fld} {b : List UInt8} (h : mencode d ty fs = .ok b) (hne : d ≠ e) : mdecode e b ≠ .ok (ty', fs') := by
  intro h'
  obtain ⟨hd, hw, rfl⟩ := mencode_ok.1 h
  obtain ⟨he, hw', hb⟩ := mencode_ok.1 (mdecode_one h')
  have hd2 := toNat_in hd
  have he2 := toNat_in he
  have k1 := type_first ⟨d.toNat - 1, by omega⟩ ⟨e.toNat - 1, by omega⟩ ty (by simpa using hw.1) ty' (by simpa using hw'.1) (fun e => by injection e with e; omega)
  have k2 := type_first ⟨e.toNat - 1, by omega⟩ ⟨d.toNat - 1, by omega⟩ ty' (by simpa using hw'.1) ty (by simpa using hw.1) (fun e => by injection e with e; omega)
  simp only [show d.toNat - 1 + 1 = d.toNat from by omega, show e.toNat - 1 + 1 = e.toNat from by omega] at k1 k2
  have := congrArg List.head? hb
  unfold wire at this
  rw [head_app k1.2, head_app k2.2] at this
  exact k1.1 this
end Go.Proofs.YticofobhkmabiaaGreatDoor.Fdd
namespace Go.Proofs.YticofobhkmabiaaGreatDoor
open Go.RowKit
open Fdd
set_option linter.unusedVariables false
set_option linter.unusedSimpArgs false
theorem errV_zero {s : Sents} {v : Value} {n : Int} (h : ErrV s v n) (h0 : n = 0) : v = .nilIface := by
  cases h <;> first | rfl | (exact absurd h0 (by decide))
theorem errV_some {s : Sents} {v : Value} {n : Int} (h : ErrV s v n) (h0 : n ≠ 0) : ∃ t x, v = .iface t x := by
  cases h <;> first | (exact absurd rfl h0) | exact ⟨_, _, rfl⟩
theorem size_msg : (Tryz.prog.info? 24).map (·.size) = some 2 := by kernel_rfl
theorem own_lt8 {w : World} {B : Nat} {e : TypeId} {v : Value} {bs : List UInt8} (h : Own w B e v bs) {k : Nat} (hk : v.ownBlock = some k) : k < w.heap.size := (World.ownsRow.lt h k hk).2
theorem own_turn8 {w w' : World} {B : Nat} {e : TypeId} {v : Value} {bs : List UInt8} {F : Nat → Prop} (h : Own w B e v bs) (ht : Turn F w w') (hF : ∀ k, v.ownBlock = some k → ¬ F k) : Own w' B e v bs := by
  refine ⟨h.1, ?_⟩
  rcases h.2 with h0 | ⟨g, cap, cur, rfl, hb1, hgg, rest⟩
  · exact .inl h0
  · exact .inr ⟨g, cap, cur, rfl, hb1, (ht.block g (Array.getElem?_eq_some_iff.1 hgg).1 (hF g rfl)).trans hgg, rest⟩
def codeE {α : Type} : Except Int α → Int
  | .ok _ => 0
  | .error k => k
def bytesE : Except Int (List UInt8) → List UInt8
  | .ok b => b
  | .error _ => []
/-- what is still to be written, when so many fields are -/
theorem putFs_at {d : Nat} {fs : List Fld} {b r0 : List UInt8} {j : Nat} {f : Fld} {X : Option (List UInt8)} {m : Fm} (hf : fs[j]? = some f) (hm : mform d f.1 = some m) (h : putFs d b (fs.drop j) = X) : (m.check (say d f) = 0 → putFs d (b ++ m.put (say d f)) (fs.drop (j + 1)) = X) ∧ (m.check (say d f) ≠ 0 → X = none) := by
  obtain ⟨hj, hfj⟩ := List.getElem?_eq_some_iff.1 hf
  have hd : fs.drop j = f :: fs.drop (j + 1) := by rw [← hfj]; exact List.drop_eq_getElem_cons hj
  rw [hd] at h
  unfold putFs at h
  rw [hm] at h
  simp only [] at h
  refine ⟨fun h0 => ?_, fun h0 => ?_⟩
  · rw [if_pos h0] at h
    exact h
  · rw [if_neg h0] at h
    exact h.symm
theorem check41 {d : Nat} {no : Int} {m : Fm} {t : List UInt8} (hd : 1 ≤ d ∧ d ≤ 3) (hm : mform d no = some m) (h : m.check t ≠ 0) : m.check t = 41 := by
  obtain ⟨k1, s1, rfl, hk1, hs1, _⟩ := form_nf hm
  unfold Fm.check at h ⊢
  rw [if_pos (may_nf hk1 hd hs1)] at h ⊢
  split
  · rename_i hr
    rw [if_pos hr] at h
    exact absurd rfl h
  · rfl
/-- what encode answers -/
def EncP (s : Sents) (r : Except Int (List UInt8)) (w : World) (e : Ending) (w' : World) : Prop := ∃ A n c v, e = .returned (.tuple #[.slice A n c, v]) ∧ ErrV s v (codeE r) ∧ Own w' w.heap.size 5 (.slice A n c) (bytesE r) ∧ Turn nowhere w w'
theorem encP_err {s : Sents} {r : Except Int (List UInt8)} {k : Int} {w w' : World} {v : Value} (hr : r = .error k) (hv : ErrV s v k) (ht : Turn nowhere w w') : EncP s r w (.returned (.tuple #[.slice none 0 0, v])) w' := by
  subst hr
  exact ⟨none, 0, 0, v, rfl, hv, World.ownsRow_nil w' _ _ _, ht⟩
structure Env (s : Sents) (W : World) : Prop where
  sen : Sen s W
  tab : Tab W
  rows : RowsT W
  pow : PowT W
  zer : ZerT W
theorem Env.turn {s : Sents} {W W' : World} (h : Env s W) (ht : Turn nowhere W W') : Env s W' := ⟨h.sen.turn ht, h.tab.turn ht, h.rows.turn ht, h.pow.turn ht, h.zer.turn ht⟩
set_option maxRecDepth 20000 in
set_option maxHeartbeats 1000000 in
theorem encode_walk {s : Sents} {w : World} {dd ty : Int} {A : Option Addr} {n c : Nat} {fs : List Fld} (he : Env s w) (hf : Fl w A n fs) :
    Calls Tryz.prog 19 #[.int .i64 dd, msgV ty A n c] w (EncP s (mencode dd ty fs) w) := by
  have hu := (Turn.refl nowhere w).alloc (.cells #[.int .i64 ty, .slice A n c] 24)
  have hb := Blk.new w 24 #[.int .i64 ty, .slice A n c]
  obtain ⟨bm, hbm⟩ : ∃ bm, bm = w.heap.size := ⟨_, rfl⟩
  obtain ⟨w1, hw1⟩ : ∃ w1, w1 = w.alloc (.cells #[.int .i64 ty, .slice A n c] 24) := ⟨_, rfl⟩
  rw [← hw1] at hu hb
  rw [← hbm] at hb
  have HE := Lib.hid (he.turn hu)
  have HF := Lib.hid (hf.still hu)
  have HU := Lib.hid hu
  have HB := Lib.hid hb
  have HW := Lib.hid hw1
  have HBM := Lib.hid hbm
  have HNL : Hid (fs.length = n) := Lib.hid hf.1
  have HNM : Hid (n ≤ 140737488355328) := Lib.hid hf.2.1
  have y9 : (n : Int) ≤ 140737488355328 := by
    have := HNM.out
    omega
  clear he hf hu hb hw1 hbm
  unfold msgV
  go_enter Tryz.func19, Tryz.ntmps19
  go_upto_region 1 with fail
  have e1 := HW.out
  have e2 := HBM.out
  rw [← e1, ← e2]
  clear e1 e2 HW HBM
  refine wp_region_lit ?_
  refine wR (v := .int .i64 dd) rfl (exec_move rfl rfl) ?_
  simp only [Act.put, zzA, zz0, zz1]
  by_cases hd : 1 ≤ dd ∧ dd ≤ 3
  · obtain ⟨d, hdn⟩ : ∃ d : Nat, dd = (d : Int) := ⟨dd.toNat, by omega⟩
    subst hdn
    have hd2 : 1 ≤ d ∧ d ≤ 3 := by omega
    have HD := Lib.hid hd2
    have HR := Lib.hid (show mencode (d : Int) ty fs = if mcheck ty fs = 0 then match putFs d (mhead d ty fs) fs with | none => .error 41 | some b => .ok b else .error (mcheck ty fs) from by
      unfold mencode
      rw [if_pos hd, Int.toNat_natCast]
      rfl)
    clear hd hd2
    refine wpList_op rfl fun K9 HK9 => ?_
    go_wp2_with fail
    refine (tongueOf_ok (s := s) HD.out HE.out.tab).mono ?_
    rintro e w2 ⟨rfl, ht2⟩
    refine HK9.out _ _ ?_
    clear HK9
    try simp only [Act.put, zzA, zz0, zz1]
    have HU2 := Lib.hid ht2
    have HB2 := Lib.hid (HB.out.turn ht2 (fun e => e))
    clear ht2 HB
    refine wR (v := .tuple #[tongV d, .nilIface]) rfl (exec_move rfl rfl) ?_
    simp only [Act.put, zzA, zz0, zz1]
    refine wR (v := tongV d) rfl (ix_extract rfl rfl rfl) ?_
    simp only [Act.put, zzA, zz0, zz1]
    refine wR (v := .nilIface) rfl (ix_extract rfl rfl rfl) ?_
    simp only [Act.put, zzA, zz0, zz1]
    refine wR (v := .pointer (some ⟨w2.heap.size, 0, none⟩)) (w' := w2.alloc (.cells #[.int .i64 0, strV [], strV []] 70)) rfl (gx_alloc rfl (zero_tongue _)) ?_
    simp only [Act.put, zzA, zz0, zz1]
    have hb8 := Blk.new w2 70 #[.int .i64 0, strV [], strV []]
    have hu8 := HU2.out.alloc (.cells #[.int .i64 0, strV [], strV []] 70)
    have hbm8 := HB2.out.alloc (.cells #[.int .i64 0, strV [], strV []] 70)
    obtain ⟨bt, hbt⟩ : ∃ bt, bt = w2.heap.size := ⟨_, rfl⟩
    rw [← hbt] at hb8 ⊢
    have HG8 := Lib.hid (show w1.heap.size ≤ bt from by rw [hbt]; exact HU2.out.size)
    have HN8 := Lib.hid (show bm ≠ bt from by have := HB2.out.lt; omega)
    clear hbt
    generalize w2.alloc (.cells #[.int .i64 0, strV [], strV []] 70) = w5 at *
    refine wpList_store_row rfl 70 (.tmp 6) (.tmp 17) rfl (tongA d) hb8 rfl rfl rfl (by rw [size_tongue]; rfl) (tongA_one d) ?_
    intro w6 hb6 hu6
    have HBT := Lib.hid hb6
    have HBM := Lib.hid (hbm8.turn hu6 (fun e => HN8.out e))
    have HU6 := Lib.hid (hu8.trans hu6 (fun k hk e => by
      have := HG8.out
      have e : k = bt := e
      omega))
    clear hb8 hu8 hbm8 hb6 hu6 HB2 HU2
    simp only [Act.put, zzA, zz0, zz1]
    have HCV := Lib.hid (checkV_ok s ty fs)
    go_upto_region 4 with fail
    refine wp_region_lit ?_
    refine wR (v := msgV ty A n c) rfl (gx_loads rfl rfl (blk_range HBM.out) Tryz.underlying24 rfl (by rw [size_msg]; rfl)) ?_
    simp only [Act.put, zzA, zz0, zz1]
    refine wpList_op rfl fun K9 HK9 => ?_
    go_wp2_with fail
    refine (check_walk2 (s := s) (HE.out.tab.turn HU6.out) (HE.out.sen.turn HU6.out) (HE.out.rows.turn HU6.out) (HF.out.still HU6.out)).mono ?_
    rintro e w7 ⟨rfl, ht7⟩
    refine HK9.out _ _ ?_
    clear HK9
    try simp only [Act.put, zzA, zz0, zz1]
    have HU7 := Lib.hid (HU6.out.next ht7)
    have HBT7 := Lib.hid (HBT.out.turn ht7 (fun e => e))
    have HBM7 := Lib.hid (HBM.out.turn ht7 (fun e => e))
    clear ht7 HU6 HBT HBM
    by_cases hck : mcheck ty fs = 0
    · have hv := errV_zero HCV.out hck
      rw [hv]
      obtain ⟨hty, _, hgood⟩ := mcheck_zero.1 hck
      have HTY := Lib.hid hty
      have HGD := Lib.hid hgood
      have HR2 := Lib.hid (show mencode (d : Int) ty fs = match putFs d (mhead d ty fs) fs with | none => .error 41 | some b => .ok b from by rw [HR.out, if_pos hck])
      have HML := Lib.hid (show n ≤ 24 from by rw [← HNL.out]; exact (mcheck_zero.1 hck).2.1)
      clear hv hty hgood hck HR HCV
      go_upto_region 7 with fail
      refine wp_region_lit ?_
      refine wR (v := tongV d) rfl (gx_loads rfl rfl (blk_range HBT7.out) Tryz.underlying70 rfl (by rw [size_tongue]; rfl)) ?_
      simp only [Act.put, zzA, zz0, zz1]
      refine wR (v := msgV ty A n c) rfl (gx_loads rfl rfl (blk_range HBM7.out) Tryz.underlying24 rfl (by rw [size_msg]; rfl)) ?_
      simp only [Act.put, zzA, zz0, zz1]
      refine wpList_op rfl fun K9 HK9 => ?_
      go_wp2_with fail
      refine (putHead_walk (s := s) HD.out HTY.out (good_nos HGD.out).2 (HE.out.sen.turn HU7.out) (HE.out.rows.turn HU7.out) (HE.out.pow.turn HU7.out) (HE.out.zer.turn HU7.out) (HF.out.still HU7.out)).mono ?_
      rintro e w8 ⟨A8, n8, c8, rfl, ho8, ht8⟩
      refine HK9.out _ _ ?_
      clear HK9
      try simp only [Act.put, zzA, zz0, zz1]
      refine wR (v := .tuple #[.slice A8 n8 c8, .nilIface]) rfl (exec_move rfl rfl) ?_
      simp only [Act.put, zzA, zz0, zz1]
      refine wR (v := .slice A8 n8 c8) rfl (ix_extract rfl rfl rfl) ?_
      simp only [Act.put, zzA, zz0, zz1]
      refine wR (v := .nilIface) rfl (ix_extract rfl rfl rfl) ?_
      simp only [Act.put, zzA, zz0, zz1]
      refine wR (v := .slice A8 n8 c8) rfl (gx_assign rfl rfl) ?_
      simp only [Act.put, zzA, zz0, zz1]
      refine wR (v := .nilIface) rfl (gx_assign rfl rfl) ?_
      simp only [Act.put, zzA, zz0, zz1]
      have HU8 := Lib.hid (HU7.out.next ht8)
      have HBT8 := Lib.hid (HBT7.out.turn ht8 (fun e => e))
      have HO8 := Lib.hid (show Own w8 w1.heap.size 5 (.slice A8 n8 c8) (mhead d ty fs) from own_base ho8 HU7.out.size)
      have HL8 := Lib.hid (show (mhead d ty fs).length ≤ 46 from by
        have h1 := hpart_len (fs := fs) HD.out HTY.out 2
        have h2 : hpart d ty fs 2 = mhead d ty fs := by
          unfold hpart
          rw [List.take_of_length_le (halves_len fs)]
          rfl
        rw [h2] at h1
        exact h1)
      have c1 : w8.cell? ⟨bm, 1, none⟩ = some (.slice A n c) := (HBM7.out.turn ht8 (fun e => e)).cell 1
      clear ho8 ht8 HU7 HBT7 HBM7
      go_upto_region 10 with fail
      go_wp2_with fail
      clear c1
      go_loopg [9, 39] n (fun gk bv jv wr => ∃ (j : Nat) (A' : Option Addr) (n' c' : Nat) (b : List UInt8), j + gk = n ∧ jv = .int .i64 (j : Int) ∧ bv = .slice A' n' c' ∧ Own wr w1.heap.size 5 (.slice A' n' c') b ∧ b.length ≤ 46 + 130 * j ∧ putFs d b (fs.drop j) = putFs d (mhead d ty fs) fs ∧ Blk wr bt 70 (tongA d) ∧ Turn nowhere w1 wr)
      case atStart => exact ⟨0, A8, n8, c8, _, by omega, rfl, rfl, HO8.out, by have := HL8.out; omega, rfl, HBT8.out, HU8.out⟩
      obtain ⟨j, Aj, nj, cj, bj, hjl, rfl, rfl, hoj, hlj, hpj, hbj, htr⟩ := hrel
      have HJL := Lib.hid hjl
      have HOJ := Lib.hid hoj
      have HLJ := Lib.hid hlj
      have HPJ := Lib.hid hpj
      have HBJ := Lib.hid hbj
      have HTR := Lib.hid htr
      clear hjl hoj hlj hpj hbj htr
      by_cases hlt : j < n
      · have y1 : (j : Int) < (n : Int) := by omega
        have HLT := Lib.hid hlt
        obtain ⟨f, hff⟩ : ∃ f, fs[j]? = some f := ⟨_, List.getElem?_eq_getElem (show j < fs.length from by rw [HNL.out]; exact hlt)⟩
        obtain ⟨bF, oF, rfl, hrow⟩ := HF.out.2.2 (by omega)
        have HRR := Lib.hid (show wr.rangeAt bF (oF + j * 2) (fldA f).toList from fun i v hv => (HTR.out.cell (World.block_lt_of_cell? _ _ (hrow j f hff i v hv)) (fun e => e)).trans (hrow j f hff i v hv))
        obtain ⟨m1, hm1, hc1⟩ := HGD.out.2 f (List.mem_of_getElem? hff)
        obtain ⟨m, hm⟩ := Option.isSome_iff_exists.1 (form_of (d := 1) (d' := d) (no := f.1) (by rw [hm1]; rfl))
        have HM := Lib.hid hm
        have HAT := Lib.hid (putFs_at (r0 := []) hff hm HPJ.out)
        clear hlt hff hrow hm1 hc1 hm
        go_upto_region 12 with fail
        refine wp_region_lit ?_
        refine wR (v := .pointer (some ⟨bF, oF + j * 2, none⟩)) rfl (gx_iaddr (i := j) (sz := 2) rfl rfl rfl Tryz.underlying22 size_field HLT.out (by omega)) ?_
        simp only [Act.put, zzA, zz0, zz1]
        refine wR (v := .agg (fldA f)) rfl (gx_loads rfl rfl HRR.out Tryz.underlying40 rfl (by rw [size_field]; rfl)) ?_
        simp only [Act.put, zzA, zz0, zz1]
        refine wR (v := .pointer (some ⟨wr.heap.size, 0, none⟩)) (w' := wr.alloc (.cells #[.int .i64 0, strV []] 40)) rfl (gx_alloc rfl (zero_field _)) ?_
        simp only [Act.put, zzA, zz0, zz1]
        have hb7 := Blk.new wr 40 #[.int .i64 0, strV []]
        have hu7 := HTR.out.alloc (.cells #[.int .i64 0, strV []] 40)
        obtain ⟨g7, hg7⟩ : ∃ g7, g7 = wr.heap.size := ⟨_, rfl⟩
        rw [← hg7] at hb7 ⊢
        have HG7 := Lib.hid (show w1.heap.size ≤ g7 from by rw [hg7]; exact HTR.out.size)
        have HRG := Lib.hid (show wr.heap.size ≤ g7 from by rw [hg7]; exact Nat.le_refl _)
        have hr7 := (Turn.refl nowhere wr).alloc (.cells #[.int .i64 0, strV []] 40)
        clear hg7
        generalize wr.alloc (.cells #[.int .i64 0, strV []] 40) = w2 at *
        refine wpList_store_row rfl 40 (.tmp 11) (.tmp 42) rfl (fldA f) hb7 rfl rfl rfl (by rw [size_field]; rfl) (fldA_one f) ?_
        intro w3 hb3 hu3
        have HB7 := Lib.hid hb3
        have HU3 := Lib.hid (hu7.trans hu3 (fun k hk e => by
          have := HG7.out
          have e : k = g7 := e
          omega))
        have HR3 := Lib.hid (hr7.trans hu3 (fun k hk e => by
          have := HRG.out
          have e : k = g7 := e
          omega))
        clear hb7 hu7 hb3 hu3 HRR hr7 HRG
        simp only [Act.put, zzA, zz0, zz1]
        have d0 : w3.cell? ⟨g7, 0, none⟩ = some (.int .i64 f.1) := HB7.out.cell 0
        have HBT3 := Lib.hid (HBJ.out.turn HR3.out (fun e => e))
        go_upto_region 13 with fail
        refine wp_region_lit ?_
        refine wR (v := tongV d) rfl (gx_loads rfl rfl (blk_range HBT3.out) Tryz.underlying70 rfl (by rw [size_tongue]; rfl)) ?_
        simp only [Act.put, zzA, zz0, zz1]
        refine wR (v := .pointer (some ⟨g7, 0, none⟩)) rfl (exec_field (off := 0) (d := 0) rfl rfl (by kernel_rfl)) ?_
        simp only [Act.put, zzA, zz0, zz1]
        refine wR (v := .int .i64 f.1) rfl (exec_load1 rfl rfl (by kernel_rfl) d0) ?_
        simp only [Act.put, zzA, zz0, zz1]
        refine wpList_op rfl fun K9 HK9 => ?_
        go_wp2_with fail
        refine (form_walk (s := s) (d := d) (HE.out.tab.turn HU3.out) (HE.out.sen.turn HU3.out)).mono ?_
        rintro e w4 ⟨rfl, ht4⟩
        refine HK9.out _ _ ?_
        clear HK9
        try simp only [Act.put, zzA, zz0, zz1]
        have HU4 := Lib.hid (HU3.out.next ht4)
        have HB4 := Lib.hid (HB7.out.turn ht4 (fun e => e))
        have HBT4 := Lib.hid (HBT3.out.turn ht4 (fun e => e))
        have HO4 := Lib.hid (own_still (own_still HOJ.out HR3.out) ht4)
        clear ht4 HU3 HB7 d0 HBT3 HR3
        have hfr : formR s d f.1 = .tuple #[fmV m, .nilIface] := by unfold formR; rw [HM.out]
        rw [hfr]
        clear hfr
        refine wR (v := .tuple #[fmV m, .nilIface]) rfl (exec_move rfl rfl) ?_
        simp only [Act.put, zzA, zz0, zz1]
        refine wR (v := fmV m) rfl (ix_extract rfl rfl rfl) ?_
        simp only [Act.put, zzA, zz0, zz1]
        refine wR (v := .nilIface) rfl (ix_extract rfl rfl rfl) ?_
        simp only [Act.put, zzA, zz0, zz1]
        refine wR (v := .pointer (some ⟨w4.heap.size, 0, none⟩)) (w' := w4.alloc (.cells #[.int .i64 0, .int .i64 0, .int .i64 0] 49)) rfl (gx_alloc rfl (mzero_form _)) ?_
        simp only [Act.put, zzA, zz0, zz1]
        have hb8 := Blk.new w4 49 #[.int .i64 0, .int .i64 0, .int .i64 0]
        have hu8 := HU4.out.alloc (.cells #[.int .i64 0, .int .i64 0, .int .i64 0] 49)
        have hb78 := HB4.out.alloc (.cells #[.int .i64 0, .int .i64 0, .int .i64 0] 49)
        have hbt8 := HBT4.out.alloc (.cells #[.int .i64 0, .int .i64 0, .int .i64 0] 49)
        have ho8 := own_still HO4.out ((Turn.refl nowhere w4).alloc (.cells #[.int .i64 0, .int .i64 0, .int .i64 0] 49))
        obtain ⟨g8, hg8⟩ : ∃ g8, g8 = w4.heap.size := ⟨_, rfl⟩
        rw [← hg8] at hb8 ⊢
        have HG8 := Lib.hid (show w1.heap.size ≤ g8 from by rw [hg8]; exact HU4.out.size)
        have HN8 := Lib.hid (show g7 ≠ g8 from by have := HB4.out.lt; omega)
        have HNT := Lib.hid (show bt ≠ g8 from by have := HBT4.out.lt; omega)
        have HNO := Lib.hid (show ∀ k, (Value.slice Aj nj cj).ownBlock = some k → k ≠ g8 from fun k hk => by have := own_lt8 HO4.out hk; omega)
        clear hg8
        generalize w4.alloc (.cells #[.int .i64 0, .int .i64 0, .int .i64 0] 49) = w5 at *
        refine wpList_store_row rfl 49 (.tmp 12) (.tmp 48) rfl #[.int .i64 m.kind, .int .i64 m.size, .int .i64 m.code] hb8 rfl rfl rfl (by rw [size_form]; rfl) (fm3_one _ _ _) ?_
        intro w6 hb6 hu6
        have HB8 := Lib.hid hb6
        have HB7 := Lib.hid (hb78.turn hu6 (fun e => HN8.out e))
        have HBT6 := Lib.hid (hbt8.turn hu6 (fun e => HNT.out e))
        have HO6 := Lib.hid (own_turn8 ho8 hu6 (fun k hk e => HNO.out k hk e))
        have HU6 := Lib.hid (hu8.trans hu6 (fun k hk e => by
          have := HG8.out
          have e : k = g8 := e
          omega))
        clear hb8 hu8 hb78 hb6 hu6 HB4 HU4 HBT4 hbt8 ho8 HO4 HNO
        simp only [Act.put, zzA, zz0, zz1]
        go_upto_region 16 with fail
        have hS0 : Blk w6.drew g7 40 (fldA f) ∧ Blk w6.drew g8 49 #[.int .i64 m.kind, .int .i64 m.size, .int .i64 m.code] ∧ Blk w6.drew bt 70 (tongA d) := ⟨HB7.out, HB8.out, HBT6.out⟩
        have HU6d : Hid (Turn nowhere w1 w6.drew) := Lib.hid HU6.out.drew
        have HO6d : Hid (Own w6.drew w1.heap.size 5 (.slice Aj nj cj) bj) := Lib.hid HO6.out
        clear HB7 HB8 HBT6 HU6 HO6
        refine wp_region_alw (fun W => Blk W g7 40 (fldA f) ∧ Blk W g8 49 #[.int .i64 m.kind, .int .i64 m.size, .int .i64 m.code] ∧ Blk W bt 70 (tongA d)) (by kernel_rfl) ?_
        generalize w6.drew = w7 at *
        refine alw_take (i := 0) (v := .slice Aj nj cj) rfl (by kernel_rfl) (by kernel_rfl) (fun _ _ _ h => h) (.inl ⟨by rfl, fun W hW => exec_move rfl rfl⟩) hS0 ?_
        simp only [Act.put, zzA, zz0, zz1]
        refine alw_take (i := 1) (v := .pointer (some ⟨g7, 0, none⟩)) rfl (by kernel_rfl) (by kernel_rfl) (fun _ _ _ h => h) (.inl ⟨by rfl, fun W hW => exec_field (off := 0) (d := 0) rfl rfl (by kernel_rfl)⟩) hS0 ?_
        simp only [Act.put, zzA, zz0, zz1]
        refine alw_take (i := 2) (v := .int .i64 f.1) rfl (by kernel_rfl) (by kernel_rfl) (fun _ _ _ h => h) (.inl ⟨by rfl, fun W hW => exec_load1 rfl rfl (by kernel_rfl) (hW.1.cell 0)⟩) hS0 ?_
        simp only [Act.put, zzA, zz0, zz1]
        refine alw_take (i := 3) (v := fmV m) rfl (by kernel_rfl) (by kernel_rfl) (fun _ _ _ h => h) (.inl ⟨by rfl, fun W hW => gx_loads rfl rfl (blk_range hW.2.1) Tryz.underlying49 rfl (by rw [size_form]; rfl)⟩) hS0 ?_
        simp only [Act.put, zzA, zz0, zz1]
        refine alw_take (i := 4) (v := .pointer (some ⟨g7, 1, none⟩)) rfl (by kernel_rfl) (by kernel_rfl) (fun _ _ _ h => h) (.inl ⟨by rfl, fun W hW => exec_field (off := 0) (d := 1) rfl rfl (by kernel_rfl)⟩) hS0 ?_
        simp only [Act.put, zzA, zz0, zz1]
        refine alw_take (i := 5) (v := strV f.2) rfl (by kernel_rfl) (by kernel_rfl) (fun _ _ _ h => h) (.inl ⟨by rfl, fun W hW => exec_load1 rfl rfl (by kernel_rfl) (hW.1.cell 1)⟩) hS0 ?_
        simp only [Act.put, zzA, zz0, zz1]
        refine alw_take (i := 6) (v := tongV d) rfl (by kernel_rfl) (by kernel_rfl) (fun _ _ _ h => h) (.inl ⟨by rfl, fun W hW => gx_loads rfl rfl (blk_range hW.2.2) Tryz.underlying70 rfl (by rw [size_tongue]; rfl)⟩) hS0 ?_
        simp only [Act.put, zzA, zz0, zz1]
        refine alw_take (i := 7) (v := .pointer (some ⟨g7, 0, none⟩)) rfl (by kernel_rfl) (by kernel_rfl) (fun _ _ _ h => h) (.inl ⟨by rfl, fun W hW => exec_field (off := 0) (d := 0) rfl rfl (by kernel_rfl)⟩) hS0 ?_
        simp only [Act.put, zzA, zz0, zz1]
        refine alw_take (i := 8) (v := .int .i64 f.1) rfl (by kernel_rfl) (by kernel_rfl) (fun _ _ _ h => h) (.inl ⟨by rfl, fun W hW => exec_load1 rfl rfl (by kernel_rfl) (hW.1.cell 0)⟩) hS0 ?_
        simp only [Act.put, zzA, zz0, zz1]
        refine alw_step (i := 9) (by kernel_rfl) rfl rfl ?_
        intro K1 HK1
        go_wp2_with fail
        refine (unsaid_walk d f.1 _).mono ?_
        rintro e w9 ⟨rfl, ht9⟩
        have hS1 : Blk w9 g7 40 (fldA f) ∧ Blk w9 g8 49 #[.int .i64 m.kind, .int .i64 m.size, .int .i64 m.code] ∧ Blk w9 bt 70 (tongA d) := ⟨hS0.1.turn ht9 (fun e => e), hS0.2.1.turn ht9 (fun e => e), hS0.2.2.turn ht9 (fun e => e)⟩
        refine HK1.out _ _ ⟨hS1, ?_⟩
        have HU9 := Lib.hid (HU6d.out.next ht9)
        have HO9 := Lib.hid (own_still HO6d.out ht9)
        clear HK1 hS0 HU6d HO6d ht9
        try simp only [Act.put, zzA, zz0, zz1]
        refine alw_step (i := 10) (by kernel_rfl) rfl rfl ?_
        intro K1 HK1
        go_wp2_with fail
        refine trim_walk.mono ?_
        rintro e w10 ⟨rfl, rfl⟩
        refine HK1.out _ _ ⟨hS1, ?_⟩
        clear HK1
        try simp only [Act.put, zzA, zz0, zz1]
        refine alw_step (i := 11) (by kernel_rfl) rfl rfl ?_
        intro K1 HK1
        go_wp2_with fail
        refine (mput_walk (s := s) (no := f.1) (f := m) (t := say d f) (HE.out.sen.turn HU9.out) (HE.out.rows.turn HU9.out) (own_bs HO9.out).1 (by have h1 := own_len HO9.out; have h2 := HLJ.out; have h3 := HLT.out; have h4 := HML.out; omega)).mono ?_
        rintro e w11 ⟨A11, n11, c11, rfl, ho11, ht11⟩
        have hS2 : Blk w11 g7 40 (fldA f) ∧ Blk w11 g8 49 #[.int .i64 m.kind, .int .i64 m.size, .int .i64 m.code] ∧ Blk w11 bt 70 (tongA d) := ⟨hS1.1.turn ht11 (fun e => e), hS1.2.1.turn ht11 (fun e => e), hS1.2.2.turn ht11 (fun e => e)⟩
        refine HK1.out _ _ ⟨hS2, ?_⟩
        have HU11 := Lib.hid (HU9.out.next ht11)
        have HO11 := Lib.hid (own_base ho11 HU9.out.size)
        clear HK1 hS1 HU9 HO9 ht11 ho11
        try simp only [Act.put, zzA, zz0, zz1]
        obtain ⟨wv, hwv⟩ : ∃ wv, wv = wrapV s f.1 (m.check (say d f)) := ⟨_, rfl⟩
        rw [← hwv]
        have HWV := Lib.hid hwv
        clear hwv
        refine alw_take (i := 12) (v := .tuple #[.slice A11 n11 c11, wv]) rfl (by kernel_rfl) (by kernel_rfl) (fun _ _ _ h => h) (.inl ⟨by rfl, fun W hW => exec_move rfl rfl⟩) hS2 ?_
        simp only [Act.put, zzA, zz0, zz1]
        refine alw_take (i := 13) (v := .slice A11 n11 c11) rfl (by kernel_rfl) (by kernel_rfl) (fun _ _ _ h => h) (.inl ⟨by rfl, fun W hW => ix_extract rfl rfl rfl⟩) hS2 ?_
        simp only [Act.put, zzA, zz0, zz1]
        refine alw_take (i := 14) (v := wv) rfl (by kernel_rfl) (by kernel_rfl) (fun _ _ _ h => h) (.inl ⟨by rfl, fun W hW => ix_extract rfl rfl rfl⟩) hS2 ?_
        simp only [Act.put, zzA, zz0, zz1]
        refine alw_take (i := 15) (v := .slice A11 n11 c11) rfl (by kernel_rfl) (by kernel_rfl) (fun _ _ _ h => h) (.inl ⟨by rfl, fun W hW => gx_assign rfl rfl⟩) hS2 ?_
        simp only [Act.put, zzA, zz0, zz1]
        refine alw_take (i := 16) (v := wv) rfl (by kernel_rfl) (by kernel_rfl) (fun _ _ _ h => h) (.inl ⟨by rfl, fun W hW => gx_assign rfl rfl⟩) hS2 ?_
        simp only [Act.put, zzA, zz0, zz1]
        refine alw_done rfl ?_
        have HBT11 := Lib.hid hS2.2.2
        clear hS2
        refine NoPanic.normal ?_
        by_cases hc : m.check (say d f) = 0
        · have hwn : wv = .nilIface := by rw [HWV.out, hc]; rfl
          subst hwn
          have HO12 := Lib.hid (show Own w11 w1.heap.size 5 (.slice A11 n11 c11) (bj ++ m.put (say d f)) from by
            have h := HO11.out
            unfold putR at h
            rw [if_pos hc] at h
            exact h)
          have HNX := Lib.hid (HAT.out.1 hc)
          have HPL := Lib.hid (show (m.put (say d f)).length ≤ 130 from by
            obtain ⟨k1, s1, hm1, hk1, hs1, _⟩ := form_nf HM.out
            rw [hm1] at hc ⊢
            have := put_cap hk1 HD.out hs1 ((check_zero hk1 HD.out hs1).1 hc)
            omega)
          clear hc HO11
          go_wp2_with fail
          go_roundg (gk - 1)
          case measure => have := HJL.out; have := HLT.out; omega
          case rel => exact ⟨j + 1, A11, n11, c11, _, by have := HJL.out; have := HLT.out; omega, by go_num, rfl, HO12.out, by rw [List.length_append]; have := HLJ.out; have := HPL.out; omega, HNX.out, HBT11.out, HU11.out⟩
        · have h41 := check41 HD.out HM.out hc
          have hwn : wv = feV f.1 s.text := by rw [HWV.out, h41]; rfl
          subst hwn
          have HER := Lib.hid (show mencode (d : Int) ty fs = .error 41 from by rw [HR2.out, HAT.out.2 hc])
          clear hc h41
          unfold feV
          go_wp2_with fail
          go_ret2
          exact encP_err HER.out (ErrV.text f.1) (HU.out.next HU11.out)
      · have y1 : ¬ ((j : Int) < (n : Int)) := by omega
        have HOK := Lib.hid (show mencode (d : Int) ty fs = .ok bj from by
          have h := HPJ.out
          rw [List.drop_eq_nil_iff.2 (by rw [HNL.out]; omega)] at h
          rw [HR2.out, ← h]
          rfl)
        clear hlt
        go_wp2_with fail
        go_ret2
        rw [HOK.out]
        exact ⟨_, _, _, _, rfl, ErrV.nil, own_base HOJ.out HU.out.size, HU.out.next HTR.out⟩
    · have HER := Lib.hid (show mencode (d : Int) ty fs = .error (mcheck ty fs) from by rw [HR.out, if_neg hck])
      obtain ⟨t9, x9, hv9⟩ := errV_some HCV.out hck
      have HV := HCV.out
      rw [hv9] at HV ⊢
      have HV9 := Lib.hid HV
      clear hck hv9 HCV HV HR
      go_wp2_with fail
      go_ret2
      exact encP_err HER.out HV9.out (HU.out.next HU7.out)
  · have HER := Lib.hid (show mencode dd ty fs = .error 50 from by unfold mencode; rw [if_neg hd])
    refine wpList_op rfl fun K9 HK9 => ?_
    go_wp2_with fail
    refine (tongueOf_bad (s := s) hd HE.out.sen).mono ?_
    rintro e w2 ⟨rfl, ht2⟩
    refine HK9.out _ _ ?_
    clear HK9
    try simp only [Act.put, zzA, zz0, zz1]
    have HU2 := Lib.hid ht2
    have HB2 := Lib.hid (HB.out.turn ht2 (fun e => e))
    clear ht2 HB hd
    refine wR (v := .tuple #[.agg #[.int .i64 0, strV [], strV []], errS s.dialect]) rfl (exec_move rfl rfl) ?_
    simp only [Act.put, zzA, zz0, zz1]
    refine wR (v := .agg #[.int .i64 0, strV [], strV []]) rfl (ix_extract rfl rfl rfl) ?_
    simp only [Act.put, zzA, zz0, zz1]
    refine wR (v := errS s.dialect) rfl (ix_extract rfl rfl rfl) ?_
    simp only [Act.put, zzA, zz0, zz1]
    refine wR (v := .pointer (some ⟨w2.heap.size, 0, none⟩)) (w' := w2.alloc (.cells #[.int .i64 0, strV [], strV []] 70)) rfl (gx_alloc rfl (zero_tongue _)) ?_
    simp only [Act.put, zzA, zz0, zz1]
    have hb8 := Blk.new w2 70 #[.int .i64 0, strV [], strV []]
    have hu8 := HU2.out.alloc (.cells #[.int .i64 0, strV [], strV []] 70)
    have hbm8 := HB2.out.alloc (.cells #[.int .i64 0, strV [], strV []] 70)
    obtain ⟨bt, hbt⟩ : ∃ bt, bt = w2.heap.size := ⟨_, rfl⟩
    rw [← hbt] at hb8 ⊢
    have HG8 := Lib.hid (show w1.heap.size ≤ bt from by rw [hbt]; exact HU2.out.size)
    have HN8 := Lib.hid (show bm ≠ bt from by have := HB2.out.lt; omega)
    clear hbt
    generalize w2.alloc (.cells #[.int .i64 0, strV [], strV []] 70) = w5 at *
    refine wpList_store_row rfl 70 (.tmp 6) (.tmp 17) rfl #[.int .i64 0, strV [], strV []] hb8 rfl rfl rfl (by rw [size_tongue]; rfl) zeroT_one ?_
    intro w6 hb6 hu6
    have HBT := Lib.hid hb6
    have HBM := Lib.hid (hbm8.turn hu6 (fun e => HN8.out e))
    have HU6 := Lib.hid (hu8.trans hu6 (fun k hk e => by
      have := HG8.out
      have e : k = bt := e
      omega))
    clear hb8 hu8 hbm8 hb6 hu6 HB2 HU2
    simp only [Act.put, zzA, zz0, zz1]
    unfold errS
    go_wp2_with fail
    go_ret2
    exact encP_err HER.out ErrV.dialect (HU.out.next HU6.out)
end Go.Proofs.YticofobhkmabiaaGreatDoor
namespace Go.Proofs.YticofobhkmabiaaGreatDoor
open Go.RowKit
open Fdd
set_option linter.unusedVariables false
set_option linter.unusedSimpArgs false
def EncodeP (r : Except Int (List UInt8)) (w : World) (e : Ending) (w' : World) : Prop := ∃ A n c, e = .returned (.tuple #[.slice A n c, .int .i64 (codeE r)]) ∧ Own w' w.heap.size 5 (.slice A n c) (bytesE r) ∧ Turn nowhere w w'
set_option maxRecDepth 20000 in
theorem Encode_walk {s : Sents} {w : World} {dd ty : Int} {A : Option Addr} {n c : Nat} {fs : List Fld} (he : Env s w) (hf : Fl w A n fs) :
    Calls Tryz.prog 8 #[.int .i64 dd, msgV ty A n c] w (EncodeP (mencode dd ty fs) w) := by
  have hu := (Turn.refl nowhere w).alloc (.cells #[.int .i64 ty, .slice A n c] 24)
  have hb := Blk.new w 24 #[.int .i64 ty, .slice A n c]
  obtain ⟨bm, hbm⟩ : ∃ bm, bm = w.heap.size := ⟨_, rfl⟩
  obtain ⟨w1, hw1⟩ : ∃ w1, w1 = w.alloc (.cells #[.int .i64 ty, .slice A n c] 24) := ⟨_, rfl⟩
  rw [← hw1] at hu hb
  rw [← hbm] at hb
  have HE := Lib.hid (he.turn hu)
  have HF := Lib.hid (hf.still hu)
  have HU := Lib.hid hu
  have HB := Lib.hid hb
  have HW := Lib.hid hw1
  have HBM := Lib.hid hbm
  clear he hf hu hb hw1 hbm
  unfold msgV
  go_enter Tryz.func8, Tryz.ntmps8
  go_upto_region 1 with fail
  have e1 := HW.out
  have e2 := HBM.out
  rw [← e1, ← e2]
  clear e1 e2 HW HBM
  refine wp_region_lit ?_
  refine wR (v := .int .i64 dd) rfl (exec_move rfl rfl) ?_
  simp only [Act.put, zzA, zz0, zz1]
  refine wR (v := msgV ty A n c) rfl (gx_loads rfl rfl (blk_range HB.out) Tryz.underlying24 rfl (by rw [size_msg]; rfl)) ?_
  simp only [Act.put, zzA, zz0, zz1]
  refine wpList_op rfl fun K9 HK9 => ?_
  go_wp2_with fail
  refine (encode_walk (s := s) HE.out HF.out).mono ?_
  rintro e w2 ⟨A2, n2, c2, v2, rfl, hv2, ho2, ht2⟩
  refine HK9.out _ _ ?_
  clear HK9
  try simp only [Act.put, zzA, zz0, zz1]
  refine wR (v := .tuple #[.slice A2 n2 c2, v2]) rfl (exec_move rfl rfl) ?_
  simp only [Act.put, zzA, zz0, zz1]
  refine wR (v := .slice A2 n2 c2) rfl (ix_extract rfl rfl rfl) ?_
  simp only [Act.put, zzA, zz0, zz1]
  refine wR (v := v2) rfl (ix_extract rfl rfl rfl) ?_
  simp only [Act.put, zzA, zz0, zz1]
  refine wR (v := .slice A2 n2 c2) rfl (gx_assign rfl rfl) ?_
  simp only [Act.put, zzA, zz0, zz1]
  refine wR (v := v2) rfl (gx_assign rfl rfl) ?_
  simp only [Act.put, zzA, zz0, zz1]
  have HV := Lib.hid hv2
  have HO := Lib.hid ho2
  have HT := Lib.hid ht2
  clear hv2 ho2 ht2 HB
  generalize mencode dd ty fs = r at *
  go_upto_region 2 with fail
  refine wp_region_lit ?_
  refine wR (v := .slice A2 n2 c2) rfl (exec_move rfl rfl) ?_
  simp only [Act.put, zzA, zz0, zz1]
  refine wR (v := v2) rfl (exec_move rfl rfl) ?_
  simp only [Act.put, zzA, zz0, zz1]
  refine wpList_op rfl fun K9 HK9 => ?_
  go_wp2_with fail
  refine (tell_walk HV.out (HE.out.sen.turn HT.out)).mono ?_
  rintro e w3 ⟨rfl, ht3⟩
  refine HK9.out _ _ ?_
  clear HK9
  try simp only [Act.put, zzA, zz0, zz1]
  refine wR (v := .slice A2 n2 c2) rfl (gx_assign rfl rfl) ?_
  simp only [Act.put, zzA, zz0, zz1]
  refine wR (v := .int .i64 (codeE r)) rfl (gx_assign rfl rfl) ?_
  simp only [Act.put, zzA, zz0, zz1]
  have HT3 := Lib.hid ht3
  clear ht3
  go_wp2_with fail
  go_ret2
  exact ⟨_, _, _, rfl, own_base (own_still HO.out HT3.out) HU.out.size, (HU.out.next HT.out).next HT3.out⟩
set_option maxRecDepth 20000 in
theorem Check_walk {s : Sents} {w : World} {ty : Int} {A : Option Addr} {n c : Nat} {fs : List Fld} (he : Env s w) (hf : Fl w A n fs) :
    Calls Tryz.prog 10 #[msgV ty A n c] w fun e w' => e = .returned (.int .i64 (mcheck ty fs)) ∧ Turn nowhere w w' := by
  have hu := (Turn.refl nowhere w).alloc (.cells #[.int .i64 ty, .slice A n c] 24)
  have hb := Blk.new w 24 #[.int .i64 ty, .slice A n c]
  obtain ⟨bm, hbm⟩ : ∃ bm, bm = w.heap.size := ⟨_, rfl⟩
  obtain ⟨w1, hw1⟩ : ∃ w1, w1 = w.alloc (.cells #[.int .i64 ty, .slice A n c] 24) := ⟨_, rfl⟩
  rw [← hw1] at hu hb
  rw [← hbm] at hb
  have HE := Lib.hid (he.turn hu)
  have HF := Lib.hid (hf.still hu)
  have HU := Lib.hid hu
  have HB := Lib.hid hb
  have HW := Lib.hid hw1
  have HBM := Lib.hid hbm
  clear he hf hu hb hw1 hbm
  unfold msgV
  have HV := Lib.hid (checkV_ok s ty fs)
  go_enter Tryz.func10, Tryz.ntmps10
  go_upto_region 1 with fail
  have e1 := HW.out
  have e2 := HBM.out
  rw [← e1, ← e2]
  clear e1 e2 HW HBM
  refine wp_region_lit ?_
  refine wR (v := msgV ty A n c) rfl (gx_loads rfl rfl (blk_range HB.out) Tryz.underlying24 rfl (by rw [size_msg]; rfl)) ?_
  simp only [Act.put, zzA, zz0, zz1]
  refine wpList_op rfl fun K9 HK9 => ?_
  go_wp2_with fail
  refine (check_walk2 (s := s) HE.out.tab HE.out.sen HE.out.rows HF.out).mono ?_
  rintro e w2 ⟨rfl, ht2⟩
  refine HK9.out _ _ ?_
  clear HK9
  try simp only [Act.put, zzA, zz0, zz1]
  have HT := Lib.hid ht2
  clear ht2 HB
  generalize checkV s ty fs = v at *
  refine wpList_op rfl fun K9 HK9 => ?_
  go_wp2_with fail
  refine (tell_walk HV.out (HE.out.sen.turn HT.out)).mono ?_
  rintro e w3 ⟨rfl, ht3⟩
  refine HK9.out _ _ ?_
  clear HK9
  try simp only [Act.put, zzA, zz0, zz1]
  go_wp2_with fail
  go_ret
  exact ⟨rfl, (HU.out.next HT.out).next ht3⟩
end Go.Proofs.YticofobhkmabiaaGreatDoor
namespace Go.Proofs.YticofobhkmabiaaGreatDoor
open Go.RowKit
open Fdd
set_option linter.unusedVariables false
set_option linter.unusedSimpArgs false
def rdA (d : Nat) (v : Value) : Array Value := #[.int .i64 (d : Int), strV (ver d), strV (unsaid d 4), v]
/-- a reader in a dialect, with so many bytes -/
def Rd (w0 w : World) (g : Nat) (d : Nat) (b : List UInt8) : Prop := ∃ A n c, Blk w g 91 (rdA d (.slice A n c)) ∧ Bs w A n b ∧ n ≤ c ∧ n ≤ 140737488355328 ∧ (0 < n → ∀ b9 o9 s9, A = some ⟨b9, o9, s9⟩ → b9 < w0.heap.size ∨ ∃ cs, Blk w b9 5 cs)
theorem bs_turn9 {w w' : World} {A : Option Addr} {n : Nat} {bs : List UInt8} {F : Nat → Prop} (h : Bs w A n bs) (ht : Turn F w w') (hn : 0 < n → ∀ b off s, A = some ⟨b, off, s⟩ → ¬ F b) : Bs w' A n bs := by
  obtain ⟨h1, h2, h3⟩ := h
  refine ⟨h1, h2, fun hp => ?_⟩
  obtain ⟨b, off, e, hc⟩ := h3 hp
  refine ⟨b, off, e, fun i hi => ?_⟩
  rw [ht.cell (World.block_lt_of_cell? _ _ (hc i hi)) (hn hp b off none e)]
  exact hc i hi
theorem Rd.still {w0 w w' : World} {g d : Nat} {b : List UInt8} (h : Rd w0 w g d b) (ht : Turn nowhere w w') : Rd w0 w' g d b := by
  obtain ⟨A, n, c, h1, h2, h3, h4, h5⟩ := h
  refine ⟨A, n, c, h1.turn ht (fun e => e), bs_still h2 ht, h3, h4, fun hp b9 o9 s9 e => ?_⟩
  rcases h5 hp b9 o9 s9 e with h | ⟨cs, h⟩
  · exact .inl h
  · exact .inr ⟨cs, h.turn ht (fun e => e)⟩
/-- another new block turns -/
theorem rd_turn {w0 w w' : World} {g d gx : Nat} {b : List UInt8} {t : TypeId} {cs : Array Value} (h : Rd w0 w g d b) (ht : Turn (only gx) w w') (hg : g ≠ gx) (hx : w0.heap.size ≤ gx) (hb : Blk w gx t cs) (htt : t ≠ 5) : Rd w0 w' g d b := by
  obtain ⟨A, n, c, h1, h2, h3, h4, h5⟩ := h
  have hne : 0 < n → ∀ b9 o9 s9, A = some ⟨b9, o9, s9⟩ → b9 ≠ gx := fun hp b9 o9 s9 e e2 => by
    subst e2
    rcases h5 hp b9 o9 s9 e with h | ⟨cs', h⟩
    · omega
    · exact h.ne_ hb (fun e => htt e.symm) rfl
  refine ⟨A, n, c, h1.turn ht (fun e => hg e), bs_turn9 h2 ht (fun hp b9 o9 s9 e => hne hp b9 o9 s9 e), h3, h4, fun hp b9 o9 s9 e => ?_⟩
  rcases h5 hp b9 o9 s9 e with h | ⟨cs', h⟩
  · exact .inl h
  · exact .inr ⟨cs', h.turn ht (fun e2 => hne hp b9 o9 s9 e e2)⟩
def errOf (r : Except Int (List UInt8 × List UInt8)) : Int := (tk r).2.2
def MTakeR (s : Sents) (g d : Nat) (no : Int) (r : Except Int (List UInt8 × List UInt8)) (w0 w : World) (e : Ending) (w' : World) : Prop :=
  e = .returned (.tuple #[strV (tk r).1, wrapV s no (tk r).2.2]) ∧ Rd w0 w' g d (tk r).2.1 ∧ Turn (only g) w w' ∧ Turn nowhere w0 w'
theorem above {w0 w w' : World} {g : Nat} (h : Turn nowhere w0 w) (hg : w0.heap.size ≤ g) (ht : Turn (only g) w w') : Turn nowhere w0 w' := h.trans ht (fun k hk e => by
  have e : k = g := e
  omega)
theorem tk_len (f : Fm) (b : List UInt8) : (tk (f.take b)).2.1.length ≤ b.length := by
  cases hr : f.take b with
  | error e => exact Nat.zero_le _
  | ok p =>
    obtain ⟨t, rest⟩ := p
    cases hm : f.may with
    | false =>
      unfold Fm.take at hr
      rw [if_neg (by rw [hm]; decide)] at hr
      cases hr
    | true =>
      obtain ⟨k, s, c, rfl, h1, h2, h3⟩ := fm_exp hm
      obtain ⟨_, h4⟩ := fm_one h1 h2 h3 hr
      have := congrArg List.length h4
      rw [List.length_append] at this
      show rest.length ≤ b.length
      omega
theorem fieldOff_rest : fieldOff Tryz.prog 91 1 = some 3 := by kernel_rfl
set_option maxRecDepth 20000 in
set_option maxHeartbeats 1000000 in
theorem mtake_walk {s : Sents} {w0 w : World} {g d : Nat} {no : Int} {f : Fm} {b : List UInt8} (he : Env s w0) (h0 : Turn nowhere w0 w) (hg0 : w0.heap.size ≤ g) (hr : Rd w0 w g d b) :
    Calls Tryz.prog 79 #[.pointer (some ⟨g, 0, none⟩), .int .i64 no, fmV f] w (MTakeR s g d no (f.take b) w0 w) := by
  have hu := (Turn.refl nowhere w).alloc (.cells #[.int .i64 f.kind, .int .i64 f.size, .int .i64 f.code] 49)
  have hb := Blk.new w 49 #[.int .i64 f.kind, .int .i64 f.size, .int .i64 f.code]
  obtain ⟨b0, hb0⟩ : ∃ b0, b0 = w.heap.size := ⟨_, rfl⟩
  obtain ⟨w1, hw1⟩ : ∃ w1, w1 = w.alloc (.cells #[.int .i64 f.kind, .int .i64 f.size, .int .i64 f.code] 49) := ⟨_, rfl⟩
  rw [← hw1] at hu hb
  rw [← hb0] at hb
  obtain ⟨A, n, c, hg, hbs, hnc, hnl, _⟩ := hr
  have hlt := hg.lt
  have HE := Lib.hid he
  have H0 := Lib.hid h0
  have HG0 := Lib.hid hg0
  have HG := Lib.hid (hg.turn hu (fun e => e))
  have HBS := Lib.hid (bs_still hbs hu)
  have HNC := Lib.hid hnc
  have HNL := Lib.hid hnl
  have HB8 := Lib.hid hbs.1
  have HU := Lib.hid hu
  have HB := Lib.hid hb
  have HW := Lib.hid hw1
  have HB0 := Lib.hid hb0
  have HNE := Lib.hid (show b0 ≠ g from by omega)
  clear he h0 hg0 hg hbs hnc hnl hu hb hw1 hb0 hlt
  have hfv : fmV f = .agg #[.int .i64 f.kind, .int .i64 f.size, .int .i64 f.code] := rfl
  rw [hfv]
  clear hfv
  go_enter Tryz.func79, Tryz.ntmps79
  go_upto_region 1 with fail
  have e1 := HW.out
  have e2 := HB0.out
  rw [← e1, ← e2]
  clear e1 e2 HW HB0
  have hS0 : Blk w1.drew g 91 (rdA d (.slice A n c)) ∧ Blk w1.drew b0 49 #[.int .i64 f.kind, .int .i64 f.size, .int .i64 f.code] := ⟨HG.out, HB.out⟩
  have HU1 : Hid (Turn nowhere w w1.drew) := Lib.hid HU.out.drew
  have HE1 : Hid (Env s w1.drew) := Lib.hid (HE.out.turn (H0.out.next HU1.out))
  have HB1 : Hid (Bs w1.drew A n b) := Lib.hid HBS.out
  clear HG HBS HU HB
  refine wp_region_alw (fun W => Blk W g 91 (rdA d (.slice A n c)) ∧ Blk W b0 49 #[.int .i64 f.kind, .int .i64 f.size, .int .i64 f.code]) (by kernel_rfl) ?_
  generalize w1.drew = w2 at *
  refine alw_take (i := 0) (v := .pointer (some ⟨g, 0, none⟩)) rfl (by kernel_rfl) (by kernel_rfl) (fun _ _ _ h => h) (.inl ⟨by rfl, fun W hW => exec_move rfl rfl⟩) hS0 ?_
  simp only [Act.put, zzA, zz0, zz1]
  refine alw_take (i := 1) (v := .pointer (some ⟨g, 0, none⟩)) rfl (by kernel_rfl) (by kernel_rfl) (fun _ _ _ h => h) (.inl ⟨by rfl, fun W hW => exec_nil rfl rfl⟩) hS0 ?_
  simp only [Act.put, zzA, zz0, zz1]
  refine alw_take (i := 2) (v := .pointer (some ⟨g, 3, none⟩)) rfl (by kernel_rfl) (by kernel_rfl) (fun _ _ _ h => h) (.inl ⟨by rfl, fun W hW => exec_field (off := 0) (d := 3) rfl rfl fieldOff_rest⟩) hS0 ?_
  simp only [Act.put, zzA, zz0, zz1]
  refine alw_take (i := 3) (v := .slice A n c) rfl (by kernel_rfl) (by kernel_rfl) (fun _ _ _ h => h) (.inl ⟨by rfl, fun W hW => exec_load1 rfl rfl (by kernel_rfl) (hW.1.cell 3)⟩) hS0 ?_
  simp only [Act.put, zzA, zz0, zz1]
  refine alw_take (i := 4) (v := fmV f) rfl (by kernel_rfl) (by kernel_rfl) (fun _ _ _ h => h) (.inl ⟨by rfl, fun W hW => gx_loads rfl rfl (blk_range hW.2) Tryz.underlying49 rfl (by rw [size_form]; rfl)⟩) hS0 ?_
  simp only [Act.put, zzA, zz0, zz1]
  refine alw_step (i := 5) (by kernel_rfl) rfl rfl ?_
  intro K1 HK1
  go_wp2_with fail
  refine (take_all (f := f) HE1.out.rows HB1.out HNC.out HNL.out).mono ?_
  rintro e w3 ⟨A3, n3, c3, rfl, ho3, ht3⟩
  have hS1 : Blk w3 g 91 (rdA d (.slice A n c)) ∧ Blk w3 b0 49 #[.int .i64 f.kind, .int .i64 f.size, .int .i64 f.code] := ⟨hS0.1.turn ht3 (fun e => e), hS0.2.turn ht3 (fun e => e)⟩
  refine HK1.out _ _ ⟨hS1, ?_⟩
  have HT3 := Lib.hid ht3
  have HO3 := Lib.hid ho3
  clear HK1 hS0 ht3 ho3 HB1
  try simp only [Act.put, zzA, zz0, zz1]
  obtain ⟨r, hr⟩ : ∃ r, r = f.take b := ⟨_, rfl⟩
  rw [← hr] at HO3 ⊢
  have HR := Lib.hid hr
  clear hr
  refine alw_take (i := 6) (v := .tuple #[strV (tk r).1, .slice A3 n3 c3, .int .i64 (tk r).2.2]) rfl (by kernel_rfl) (by kernel_rfl) (fun _ _ _ h => h) (.inl ⟨by rfl, fun W hW => exec_move rfl rfl⟩) hS1 ?_
  simp only [Act.put, zzA, zz0, zz1]
  refine alw_take (i := 7) (v := strV (tk r).1) rfl (by kernel_rfl) (by kernel_rfl) (fun _ _ _ h => h) (.inl ⟨by rfl, fun W hW => ix_extract rfl rfl rfl⟩) hS1 ?_
  simp only [Act.put, zzA, zz0, zz1]
  refine alw_take (i := 8) (v := .slice A3 n3 c3) rfl (by kernel_rfl) (by kernel_rfl) (fun _ _ _ h => h) (.inl ⟨by rfl, fun W hW => ix_extract rfl rfl rfl⟩) hS1 ?_
  simp only [Act.put, zzA, zz0, zz1]
  refine alw_take (i := 9) (v := .int .i64 (tk r).2.2) rfl (by kernel_rfl) (by kernel_rfl) (fun _ _ _ h => h) (.inl ⟨by rfl, fun W hW => ix_extract rfl rfl rfl⟩) hS1 ?_
  simp only [Act.put, zzA, zz0, zz1]
  refine alw_take (i := 10) (v := strV (tk r).1) rfl (by kernel_rfl) (by kernel_rfl) (fun _ _ _ h => h) (.inl ⟨by rfl, fun W hW => gx_assign rfl rfl⟩) hS1 ?_
  simp only [Act.put, zzA, zz0, zz1]
  refine alw_take (i := 11) (v := .slice A3 n3 c3) rfl (by kernel_rfl) (by kernel_rfl) (fun _ _ _ h => h) (.inl ⟨by rfl, fun W hW => gx_assign rfl rfl⟩) hS1 ?_
  simp only [Act.put, zzA, zz0, zz1]
  refine alw_take (i := 12) (v := .int .i64 (tk r).2.2) rfl (by kernel_rfl) (by kernel_rfl) (fun _ _ _ h => h) (.inl ⟨by rfl, fun W hW => gx_assign rfl rfl⟩) hS1 ?_
  simp only [Act.put, zzA, zz0, zz1]
  refine alw_done rfl ?_
  have HG3 := Lib.hid hS1.1
  clear hS1
  refine NoPanic.normal ?_
  go_upto_region 2 with fail
  refine wp_region_lit ?_
  refine wR (v := .pointer (some ⟨g, 0, none⟩)) rfl (exec_move rfl rfl) ?_
  simp only [Act.put, zzA, zz0, zz1]
  refine wR (v := .slice A3 n3 c3) rfl (exec_move rfl rfl) ?_
  simp only [Act.put, zzA, zz0, zz1]
  refine wR (v := .pointer (some ⟨g, 0, none⟩)) rfl (exec_nil rfl rfl) ?_
  simp only [Act.put, zzA, zz0, zz1]
  refine wR (v := .pointer (some ⟨g, 3, none⟩)) rfl (exec_field (off := 0) (d := 3) rfl rfl fieldOff_rest) ?_
  simp only [Act.put, zzA, zz0, zz1]
  refine wpList_store1 (g := g) (i := 3) (v := .slice A3 n3 c3) rfl 26 (.tmp 24) (.tmp 22) rfl HG3.out rfl rfl (show 3 < 4 from by decide) (by rfl) (by rfl) (by kernel_rfl) ?_
  intro hb9 ht9
  simp only [Act.put, zzA, zz0, zz1]
  have HT9 := Lib.hid ht9
  have HB9 := Lib.hid (show Blk (World.setCell w3 ⟨g, 3, none⟩ (.slice A3 n3 c3)) g 91 (rdA d (.slice A3 n3 c3)) from hb9)
  have hne : 0 < n3 → ∀ b9 o9 s9, A3 = some ⟨b9, o9, s9⟩ → b9 ≠ g := by
    intro _ b9 o9 s9 e1 e2
    subst e1
    subst e2
    rcases HO3.out.2 with ⟨e, _⟩ | ⟨g9, cap, cur, e, _, hg9, _⟩
    · injection e with e _ _
      cases e
    · injection e with e _ _
      injection e with e
      injection e with e _ _
      subst e
      exact (show Blk w3 b9 _ cur from hg9).ne_ HG3.out (by decide) rfl
  have HBS9 := Lib.hid (bs_turn9 (own_bs HO3.out).1 ht9 hne)
  have HN9 := Lib.hid (own_bs HO3.out).2.1
  have HT8 := Lib.hid (show ∀ b9 o9 s9, A3 = some ⟨b9, o9, s9⟩ → ∃ cs, Blk (World.setCell w3 ⟨g, 3, none⟩ (.slice A3 n3 c3)) b9 5 cs from by
    intro b9 o9 s9 e1
    rcases HO3.out.2 with ⟨e, _⟩ | ⟨g9, cap, cur, e, _, hg9, _⟩
    · injection e with e _ _
      rw [e1] at e
      cases e
    · injection e with e _ _
      rw [e1] at e
      injection e with e
      injection e with e _ _
      subst e
      have hx : b9 ≠ g := fun e2 => by
        subst e2
        exact (show Blk w3 b9 _ cur from hg9).ne_ HG3.out (by decide) rfl
      exact ⟨cur, (show Blk w3 b9 _ cur from hg9).turn HT9.out (fun e2 => hx e2)⟩)
  have HL9 := Lib.hid (show n3 ≤ 140737488355328 from by
    have h1 := (own_bs HO3.out).1.1
    have h2 := tk_len f b
    rw [← HR.out, h1, HB8.out] at h2
    exact Nat.le_trans h2 HNL.out)
  clear hb9 ht9 hne HO3 HG3
  generalize World.setCell w3 ⟨g, 3, none⟩ _ = w4 at *
  have HG9 := Lib.hid (show Turn (only g) w w4 from ((HU1.out.next HT3.out).mono (fun _ _ e => e.elim)).next HT9.out)
  have HS4 := Lib.hid ((HE.out.turn (above H0.out HG0.out HG9.out)).sen)
  go_upto_region 3 with fail
  refine wp_region_lit ?_
  refine wR (v := strV (tk r).1) rfl (exec_move rfl rfl) ?_
  simp only [Act.put, zzA, zz0, zz1]
  refine wR (v := .int .i64 no) rfl (exec_move rfl rfl) ?_
  simp only [Act.put, zzA, zz0, zz1]
  refine wR (v := .int .i64 (tk r).2.2) rfl (exec_move rfl rfl) ?_
  simp only [Act.put, zzA, zz0, zz1]
  refine wpList_op rfl fun K9 HK9 => ?_
  go_wp2_with fail
  refine (wrap_walk (e := (tk r).2.2) HS4.out).mono ?_
  rintro e w5 ⟨rfl, rfl⟩
  refine HK9.out _ _ ?_
  clear HK9
  try simp only [Act.put, zzA, zz0, zz1]
  refine wR (v := strV (tk r).1) rfl (gx_assign rfl rfl) ?_
  simp only [Act.put, zzA, zz0, zz1]
  refine wR (v := wrapV s no (tk r).2.2) rfl (gx_assign rfl rfl) ?_
  simp only [Act.put, zzA, zz0, zz1]
  go_wp2_with fail
  go_ret2
  rw [← HR.out]
  exact ⟨rfl, ⟨_, _, _, HB9.out, HBS9.out, HN9.out, HL9.out, fun _ b9 o9 s9 e => .inr (HT8.out b9 o9 s9 e)⟩, HG9.out, above H0.out HG0.out HG9.out⟩
end Go.Proofs.YticofobhkmabiaaGreatDoor
namespace Go.Proofs.YticofobhkmabiaaGreatDoor
open Go.RowKit
open Fdd
set_option linter.unusedVariables false
set_option linter.unusedSimpArgs false
theorem bw_turn (w : World) (e : TypeId) (s : ByteArray) : Turn nowhere w (Lib.bytesWorld w e s) := ⟨rfl, rfl, rfl, by rw [Lib.bytesWorld_size]; omega, fun k hk _ => Lib.bytesWorld_at_old w e s k hk⟩
theorem bw_bs (w : World) (l : List UInt8) (h : l.length ≤ 1000) : Bs (Lib.bytesWorld w 5 ⟨l.toArray⟩) (some ⟨w.heap.size, 0, none⟩) l.length l := by
  refine ⟨rfl, by unfold maxLen; omega, fun _ => ⟨_, 0, rfl, fun i hi => ?_⟩⟩
  rw [Nat.zero_add, Lib.bytesWorld_cell _ _ _ _ (by rw [str_size]; exact hi)]
section
variable {a : Act} {o : Oper} {W : World} {x y : Operand} {t u : TypeId}
theorem ux_conv {v r : Value} {W' : World} {s d : TypeId} (ho : o.op = .convert s d x) (hx : a.eval x = v) (h : (convert s d v).run Tryz.prog W = .ok r W') : (execOp a.eval o).run Tryz.prog W = .ok (.value r) W' := by
  unfold execOp
  simp only [ho, hx, h, Sem.run_bind, Sem.run_pure, Result.andThen_ok]
theorem ux_sub8 {n m r : Nat} (ho : o.op = .binOp .sub 5 x y 5) (hx : a.eval x = .int .u8 (n : Int)) (hy : a.eval y = .int .u8 (m : Int)) (hn : n < 256) (hm : m ≤ n) (hr : n - m = r) : (execOp a.eval o).run Tryz.prog W = .ok (.value (.int .u8 (r : Int))) W := by
  have hw : IntKind.u8.wrap ((n : Int) - (m : Int)) = (r : Int) := by rw [IntKind.wrap_u8]; omega
  unfold execOp
  simp only [ho, hx, hy]
  go_simp
  try (first | exact hw | (rw [hw]))
theorem ux_add8 {n m r : Nat} (ho : o.op = .binOp .add 5 x y 5) (hx : a.eval x = .int .u8 (n : Int)) (hy : a.eval y = .int .u8 (m : Int)) (hr : n + m = r) (hn : r < 256) : (execOp a.eval o).run Tryz.prog W = .ok (.value (.int .u8 (r : Int))) W := by
  have hw : IntKind.u8.wrap ((n : Int) + (m : Int)) = (r : Int) := by rw [IntKind.wrap_u8]; omega
  unfold execOp
  simp only [ho, hx, hy]
  go_simp
  try (first | exact hw | (rw [hw]))
theorem ux_mul {n m r : Nat} (ho : o.op = .binOp .mul 135 x y 135) (hx : a.eval x = .int .u64 (n : Int)) (hy : a.eval y = .int .u64 (m : Int)) (hr : n * m = r) (hn : r < 2 ^ 64) : (execOp a.eval o).run Tryz.prog W = .ok (.value (.int .u64 (r : Int))) W := by
  have hw : IntKind.u64.wrap ((n : Int) * (m : Int)) = (r : Int) := by
    rw [IntKind.wrap_u64, ← Int.natCast_mul, hr]
    omega
  unfold execOp
  simp only [ho, hx, hy]
  go_simp
  try (first | exact hw | (rw [hw]))
theorem ux_add {n m r : Nat} (ho : o.op = .binOp .add 135 x y 135) (hx : a.eval x = .int .u64 (n : Int)) (hy : a.eval y = .int .u64 (m : Int)) (hr : n + m = r) (hn : r < 2 ^ 64) : (execOp a.eval o).run Tryz.prog W = .ok (.value (.int .u64 (r : Int))) W := by
  have hw : IntKind.u64.wrap ((n : Int) + (m : Int)) = (r : Int) := by rw [IntKind.wrap_u64]; omega
  unfold execOp
  simp only [ho, hx, hy]
  go_simp
  try (first | exact hw | (rw [hw]))
theorem ux_lss {n m : Nat} {r : Bool} (ho : o.op = .binOp .lss 135 x y 135) (hx : a.eval x = .int .u64 (n : Int)) (hy : a.eval y = .int .u64 (m : Int)) (h : decide (n < m) = r) : (execOp a.eval o).run Tryz.prog W = .ok (.value (.bool r)) W := by
  unfold execOp
  simp only [ho, hx, hy]
  go_simp
  try exact h
theorem ux_gtr {n m : Nat} {r : Bool} (ho : o.op = .binOp .gtr 135 x y 135) (hx : a.eval x = .int .u64 (n : Int)) (hy : a.eval y = .int .u64 (m : Int)) (h : decide (m < n) = r) : (execOp a.eval o).run Tryz.prog W = .ok (.value (.bool r)) W := by
  unfold execOp
  simp only [ho, hx, hy]
  go_simp
  try exact h
theorem ux_geq8 {n m : Nat} {r : Bool} (ho : o.op = .binOp .geq 5 x y 5) (hx : a.eval x = .int .u8 (n : Int)) (hy : a.eval y = .int .u8 (m : Int)) (h : decide (m ≤ n) = r) : (execOp a.eval o).run Tryz.prog W = .ok (.value (.bool r)) W := by
  unfold execOp
  simp only [ho, hx, hy]
  go_simp
  try exact h
theorem ux_8to64 {n : Nat} (ho : o.op = .convert 5 135 x) (hx : a.eval x = .int .u8 (n : Int)) (hn : n < 256) : (execOp a.eval o).run Tryz.prog W = .ok (.value (.int .u64 (n : Int))) W := by
  have hw : IntKind.u64.wrap (n : Int) = (n : Int) := by rw [IntKind.wrap_u64]; omega
  unfold execOp
  simp only [ho, hx]
  go_simp
  try (first | exact hw | (rw [hw]))
end
theorem lower_walk {w : World} {c : Nat} (h : 97 ≤ c ∧ c ≤ 102) : Calls Tryz.prog 138 #[.int .u8 (c : Int)] w fun e w' => e = .returned (.int .u8 (c : Int)) ∧ w' = w := by
  have hc : c = 97 ∨ c = 98 ∨ c = 99 ∨ c = 100 ∨ c = 101 ∨ c = 102 := by omega
  rcases hc with rfl | rfl | rfl | rfl | rfl | rfl
  · go_enter Tryz.func138, Tryz.ntmps138
    go_upto_region 1 with fail
    refine wp_region_lit ?_
    refine wR (v := .int .u8 97) rfl (exec_move rfl rfl) ?_
    simp only [Act.put, zzA, zz0, zz1]
    refine wR (v := .int .u8 97) (w' := w) rfl (by kernel_rfl) ?_
    simp only [Act.put, zzA, zz0, zz1]
    refine wR (v := .int .u8 97) rfl (gx_assign rfl rfl) ?_
    simp only [Act.put, zzA, zz0, zz1]
    go_wp2_with fail
    go_ret
    exact ⟨rfl, rfl⟩
  · go_enter Tryz.func138, Tryz.ntmps138
    go_upto_region 1 with fail
    refine wp_region_lit ?_
    refine wR (v := .int .u8 98) rfl (exec_move rfl rfl) ?_
    simp only [Act.put, zzA, zz0, zz1]
    refine wR (v := .int .u8 98) (w' := w) rfl (by kernel_rfl) ?_
    simp only [Act.put, zzA, zz0, zz1]
    refine wR (v := .int .u8 98) rfl (gx_assign rfl rfl) ?_
    simp only [Act.put, zzA, zz0, zz1]
    go_wp2_with fail
    go_ret
    exact ⟨rfl, rfl⟩
  · go_enter Tryz.func138, Tryz.ntmps138
    go_upto_region 1 with fail
    refine wp_region_lit ?_
    refine wR (v := .int .u8 99) rfl (exec_move rfl rfl) ?_
    simp only [Act.put, zzA, zz0, zz1]
    refine wR (v := .int .u8 99) (w' := w) rfl (by kernel_rfl) ?_
    simp only [Act.put, zzA, zz0, zz1]
    refine wR (v := .int .u8 99) rfl (gx_assign rfl rfl) ?_
    simp only [Act.put, zzA, zz0, zz1]
    go_wp2_with fail
    go_ret
    exact ⟨rfl, rfl⟩
  · go_enter Tryz.func138, Tryz.ntmps138
    go_upto_region 1 with fail
    refine wp_region_lit ?_
    refine wR (v := .int .u8 100) rfl (exec_move rfl rfl) ?_
    simp only [Act.put, zzA, zz0, zz1]
    refine wR (v := .int .u8 100) (w' := w) rfl (by kernel_rfl) ?_
    simp only [Act.put, zzA, zz0, zz1]
    refine wR (v := .int .u8 100) rfl (gx_assign rfl rfl) ?_
    simp only [Act.put, zzA, zz0, zz1]
    go_wp2_with fail
    go_ret
    exact ⟨rfl, rfl⟩
  · go_enter Tryz.func138, Tryz.ntmps138
    go_upto_region 1 with fail
    refine wp_region_lit ?_
    refine wR (v := .int .u8 101) rfl (exec_move rfl rfl) ?_
    simp only [Act.put, zzA, zz0, zz1]
    refine wR (v := .int .u8 101) (w' := w) rfl (by kernel_rfl) ?_
    simp only [Act.put, zzA, zz0, zz1]
    refine wR (v := .int .u8 101) rfl (gx_assign rfl rfl) ?_
    simp only [Act.put, zzA, zz0, zz1]
    go_wp2_with fail
    go_ret
    exact ⟨rfl, rfl⟩
  · go_enter Tryz.func138, Tryz.ntmps138
    go_upto_region 1 with fail
    refine wp_region_lit ?_
    refine wR (v := .int .u8 102) rfl (exec_move rfl rfl) ?_
    simp only [Act.put, zzA, zz0, zz1]
    refine wR (v := .int .u8 102) (w' := w) rfl (by kernel_rfl) ?_
    simp only [Act.put, zzA, zz0, zz1]
    refine wR (v := .int .u8 102) rfl (gx_assign rfl rfl) ?_
    simp only [Act.put, zzA, zz0, zz1]
    go_wp2_with fail
    go_ret
    exact ⟨rfl, rfl⟩
theorem mhex_byte : ∀ c ∈ hexs, (48 ≤ c.toNat ∧ c.toNat ≤ 57 ∧ hexs.idxOf c = c.toNat - 48) ∨ (97 ≤ c.toNat ∧ c.toNat ≤ 102 ∧ hexs.idxOf c = c.toNat - 87) := by decide +kernel
set_option maxRecDepth 100000 in
set_option maxHeartbeats 4000000 in
theorem pint_walk {w : World} {t : List UInt8} (hl : t.length = 16) (ho : onlyOf t hexs = true) :
    Calls Tryz.prog 119 #[strV t, .int .i64 16, .int .i64 64] w fun e w' => e = .returned (.tuple #[.int .u64 ((hexVal t : Nat) : Int), .nilIface]) ∧ Turn nowhere w w' := by
  have HL := Lib.hid hl
  have HO := Lib.hid ho
  have hmv : IntKind.u64.wrap (IntKind.u64.wrap 18446744073709551616 - 1) = 18446744073709551615 := by
    rw [IntKind.wrap_u64, IntKind.wrap_u64]
    decide
  have HNE := Lib.hid (show (t == []) = false from by
    cases t with
    | nil => cases hl
    | cons x r => rfl)
  clear hl ho
  go_enter Tryz.func119, Tryz.ntmps119
  go_upto_region 1 with fail
  refine wp_region_lit ?_
  refine wR (v := strV t) rfl (exec_move rfl rfl) ?_
  simp only [Act.put, zzA, zz0, zz1]
  refine wR (v := .bool false) rfl (by rw [← HNE.out]; exact exec_seql (m := []) rfl rfl rfl) ?_
  simp only [Act.put, zzA, zz0, zz1]
  go_upto_region 35 with fail
  refine wp_region_lit ?_
  refine wR (v := strV t) rfl (exec_move rfl rfl) ?_
  simp only [Act.put, zzA, zz0, zz1]
  refine wR (v := .slice (some ⟨w.heap.size, 0, none⟩) 16 (grownCap w 16 0 5)) rfl (ux_conv rfl rfl (by have h := Lib.run_convert_string_bytes (P := Tryz.prog) w 9 26 5 ⟨t.toArray⟩ Tryz.underlying9 Tryz.underlying26 Tryz.underlying5; rw [str_size, HL.out] at h; exact h)) ?_
  simp only [Act.put, zzA, zz0, zz1]
  have hT1 := bw_turn w 5 ⟨t.toArray⟩
  have hB1 := bw_bs w t (by rw [HL.out]; decide)
  rw [HL.out] at hB1
  generalize grownCap w 16 0 5 = cap
  generalize Lib.bytesWorld w 5 ⟨t.toArray⟩ = w1 at *
  obtain ⟨gb, hgb⟩ : ∃ gb, gb = w.heap.size := ⟨_, rfl⟩
  rw [← hgb] at hB1 ⊢
  have HT1 := Lib.hid hT1
  have HB1 := Lib.hid hB1
  clear hT1 hB1 hgb
  refine wR (v := .int .i64 16) rfl (gx_len (n := 16) rfl rfl Tryz.underlying26) ?_
  simp only [Act.put, zzA, zz0, zz1]
  go_wp2_with fail
  clear hmv
  go_loopg [12, 13, 101] 16 (fun gk uv nv jv wr => ∃ (j acc : Nat), j + gk = 16 ∧ uv = .bool false ∧ jv = .int .i64 (j : Int) ∧ nv = .int .u64 (acc : Int) ∧ acc = hexVal (t.take j) ∧ Turn nowhere w1 wr)
  case atStart => exact ⟨0, 0, by omega, rfl, rfl, rfl, rfl, Turn.refl _ _⟩
  obtain ⟨j, acc, hjl, rfl, rfl, rfl, hacc, htr⟩ := hrel
  have HJL := Lib.hid hjl
  have HAE := Lib.hid hacc
  have HTR := Lib.hid htr
  clear hjl hacc htr
  by_cases hlt : j < 16
  · have y1 : (j : Int) < 16 := by omega
    have HLT := Lib.hid hlt
    obtain ⟨x, hx⟩ : ∃ x, t[j]? = some x := ⟨_, List.getElem?_eq_getElem (show j < t.length from by rw [HL.out]; exact hlt)⟩
    have HTS := Lib.hid (show t.take (j + 1) = t.take j ++ [x] from by rw [List.take_add_one, hx]; rfl)
    have hxm : x ∈ hexs := onlyOf_mem HO.out (List.mem_of_getElem? hx)
    have HAC := Lib.hid (show acc < 1152921504606846976 from by
      have h1 := hexk_hexVal j (t.take j) (by rw [List.length_take, HL.out]; omega) (by
        have h := HO.out
        unfold onlyOf at h ⊢
        rw [List.all_eq_true] at h ⊢
        exact fun c hc => h c (List.mem_of_mem_take hc))
      rw [← HAE.out] at h1
      have h2 : 16 ^ j ≤ 16 ^ 15 := Nat.pow_le_pow_right (by decide) (by omega)
      have := h1.2
      omega)
    obtain ⟨b9, o9, e9, hcell⟩ := (bs_still HB1.out HTR.out).2.2 (by decide)
    injection e9 with e9
    injection e9 with e91 e92
    subst e91
    subst e92
    have cx : wr.cell? ⟨gb, j, none⟩ = some (.int .u8 (x.toNat : Int)) := by
      have h := hcell j hlt
      rw [Nat.zero_add, List.getD_eq_getElem?_getD, hx] at h
      exact h
    obtain ⟨v, hv⟩ : ∃ v, v = hexs.idxOf x := ⟨_, rfl⟩
    have HV := Lib.hid hv
    have hv16 : v < 16 := by rw [hv]; exact (hex_get hxm).1
    have HV16 := Lib.hid hv16
    have hxc := mhex_byte x hxm
    rw [← hv] at hxc
    generalize hxn : x.toNat = xn at *
    clear hlt hx hxm hcell hv hv16 hxn
    go_upto_region 37 with fail
    refine wp_region_lit ?_
    refine wR (v := .pointer (some ⟨gb, j, none⟩)) rfl (gx_iaddr (i := j) (sz := 1) rfl rfl rfl Tryz.underlying26 (by kernel_rfl) HLT.out (by omega)) ?_
    simp only [Act.put, zzA, zz0, zz1]
    refine wR (v := .int .u8 (xn : Int)) rfl (exec_load1 rfl rfl (by kernel_rfl) cx) ?_
    simp only [Act.put, zzA, zz0, zz1]
    refine wR (v := .int .u8 (xn : Int)) rfl (gx_assign rfl rfl) ?_
    simp only [Act.put, zzA, zz0, zz1]
    clear cx
    have y95 : ¬ ((xn : Int) = 95) := by omega
    rcases hxc with ⟨hx1, hx2, hx3⟩ | ⟨hx1, hx2, hx3⟩
    · have y2 : (48 : Int) ≤ (xn : Int) := by omega
      have y3 : (xn : Int) ≤ 57 := by omega
      have HX := Lib.hid hx3
      have HX1 := Lib.hid hx1
      have HX2 := Lib.hid hx2
      clear hx1 hx2 hx3
      go_upto_region 43 with fail
      refine wp_region_lit ?_
      refine wR (v := .int .u8 (xn : Int)) rfl (exec_move rfl rfl) ?_
      simp only [Act.put, zzA, zz0, zz1]
      refine wR (v := .int .u8 (v : Int)) rfl (ux_sub8 (m := 48) rfl rfl rfl (by have := HX2.out; omega) HX1.out HX.out.symm) ?_
      simp only [Act.put, zzA, zz0, zz1]
      refine wR (v := .int .u8 (v : Int)) rfl (gx_assign rfl rfl) ?_
      simp only [Act.put, zzA, zz0, zz1]
      go_upto_region 46 with fail
      refine wp_region_lit ?_
      refine wR (v := .int .u8 (v : Int)) rfl (exec_move rfl rfl) ?_
      simp only [Act.put, zzA, zz0, zz1]
      refine wR (v := .int .i64 16) rfl (exec_move rfl rfl) ?_
      simp only [Act.put, zzA, zz0, zz1]
      refine wR (v := .int .u8 16) (w' := wr) rfl (by kernel_rfl) ?_
      simp only [Act.put, zzA, zz0, zz1]
      refine wR (v := .bool false) rfl (ux_geq8 (n := v) (m := 16) rfl rfl rfl (decide_eq_false (by have := HV16.out; omega))) ?_
      simp only [Act.put, zzA, zz0, zz1]
      go_upto_region 48 with fail
      refine wp_region_lit ?_
      refine wR (v := .int .u64 (acc : Int)) rfl (exec_move rfl rfl) ?_
      simp only [Act.put, zzA, zz0, zz1]
      refine wR (v := .int .u64 1152921504606846976) rfl (exec_move rfl rfl) ?_
      simp only [Act.put, zzA, zz0, zz1]
      refine wR (v := .bool false) rfl (ux_geq (n := acc) (m := 1152921504606846976) rfl rfl rfl (decide_eq_false (by have := HAC.out; omega))) ?_
      simp only [Act.put, zzA, zz0, zz1]
      go_upto_region 50 with fail
      refine wp_region_lit ?_
      refine wR (v := .int .u64 (acc : Int)) rfl (exec_move rfl rfl) ?_
      simp only [Act.put, zzA, zz0, zz1]
      refine wR (v := .int .i64 16) rfl (exec_move rfl rfl) ?_
      simp only [Act.put, zzA, zz0, zz1]
      refine wR (v := .int .u64 16) (w' := wr) rfl (by kernel_rfl) ?_
      simp only [Act.put, zzA, zz0, zz1]
      refine wR (v := .int .u64 ((acc * 16 : Nat) : Int)) rfl (ux_mul (m := 16) rfl rfl rfl rfl (by have := HAC.out; omega)) ?_
      simp only [Act.put, zzA, zz0, zz1]
      refine wR (v := .int .u64 ((acc * 16 : Nat) : Int)) rfl (gx_assign rfl rfl) ?_
      simp only [Act.put, zzA, zz0, zz1]
      obtain ⟨a16, ha16⟩ : ∃ a16, a16 = acc * 16 := ⟨_, rfl⟩
      rw [← ha16]
      have HA16 := Lib.hid ha16
      clear ha16
      go_upto_region 51 with fail
      refine wp_region_lit ?_
      refine wR (v := .int .u64 (a16 : Int)) rfl (exec_move rfl rfl) ?_
      simp only [Act.put, zzA, zz0, zz1]
      refine wR (v := .int .u8 (v : Int)) rfl (exec_move rfl rfl) ?_
      simp only [Act.put, zzA, zz0, zz1]
      refine wR (v := .int .u64 (v : Int)) rfl (ux_8to64 rfl rfl (by have := HV16.out; omega)) ?_
      simp only [Act.put, zzA, zz0, zz1]
      refine wR (v := .int .u64 ((a16 + v : Nat) : Int)) rfl (ux_add rfl rfl rfl rfl (by have := HAC.out; have := HA16.out; have := HV16.out; omega)) ?_
      simp only [Act.put, zzA, zz0, zz1]
      refine wR (v := .int .u64 ((a16 + v : Nat) : Int)) rfl (gx_assign rfl rfl) ?_
      simp only [Act.put, zzA, zz0, zz1]
      obtain ⟨an, han⟩ : ∃ an, an = a16 + v := ⟨_, rfl⟩
      rw [← han]
      have HAN := Lib.hid han
      clear han
      go_upto_region 52 with fail
      refine wp_region_lit ?_
      refine wR (v := .int .u64 (an : Int)) rfl (exec_move rfl rfl) ?_
      simp only [Act.put, zzA, zz0, zz1]
      refine wR (v := .int .u64 (a16 : Int)) rfl (exec_move rfl rfl) ?_
      simp only [Act.put, zzA, zz0, zz1]
      refine wR (v := .bool false) rfl (ux_lss rfl rfl rfl (decide_eq_false (by have := HAN.out; omega))) ?_
      simp only [Act.put, zzA, zz0, zz1]
      refine wR (v := .bool false) rfl (exec_move rfl rfl) ?_
      simp only [Act.put, zzA, zz0, zz1]
      refine wR (v := .int .u64 (an : Int)) rfl (exec_move rfl rfl) ?_
      simp only [Act.put, zzA, zz0, zz1]
      refine wR (v := .int .u64 18446744073709551615) rfl (exec_move rfl rfl) ?_
      simp only [Act.put, zzA, zz0, zz1]
      refine wR (v := .bool false) rfl (ux_gtr (m := 18446744073709551615) rfl rfl rfl (decide_eq_false (by have := HAC.out; have := HA16.out; have := HAN.out; have := HV16.out; omega))) ?_
      simp only [Act.put, zzA, zz0, zz1]
      refine wR (v := .bool false) rfl (ix_pickF rfl rfl rfl) ?_
      simp only [Act.put, zzA, zz0, zz1]
      go_wp2_with fail
      go_roundg (gk - 1)
      case measure => have := HJL.out; have := HLT.out; omega
      case rel => exact ⟨j + 1, an, by have := HJL.out; have := HLT.out; omega, rfl, by go_num, rfl, by rw [HAN.out, HA16.out, HAE.out, HTS.out, hexVal_snoc, HV.out], HTR.out⟩
    · have y2 : (97 : Int) ≤ (xn : Int) := by omega
      have y3 : (xn : Int) ≤ 122 := by omega
      have y4 : (48 : Int) ≤ (xn : Int) := by omega
      have y5 : ¬ ((xn : Int) ≤ 57) := by omega
      have HX := Lib.hid hx3
      have HX1 := Lib.hid hx1
      have HX2 := Lib.hid hx2
      clear hx1 hx2 hx3
      go_upto_region 45 with (go_at_call 138; refine (lower_walk (c := xn) ⟨HX1.out, HX2.out⟩).mono ?_; rintro e w9 ⟨rfl, rfl⟩)
      refine wp_region_lit ?_
      refine wR (v := .int .u8 (xn : Int)) rfl (exec_move rfl rfl) ?_
      simp only [Act.put, zzA, zz0, zz1]
      refine wpList_op rfl fun K9 HK9 => ?_
      go_wp2_with fail
      refine (lower_walk (c := xn) ⟨HX1.out, HX2.out⟩).mono ?_
      rintro e wr ⟨rfl, rfl⟩
      refine HK9.out _ _ ?_
      clear HK9
      try simp only [Act.put, zzA, zz0, zz1]
      refine wR (v := .int .u8 ((xn - 97 : Nat) : Int)) rfl (ux_sub8 (m := 97) rfl rfl rfl (by have := HX2.out; omega) HX1.out rfl) ?_
      simp only [Act.put, zzA, zz0, zz1]
      refine wR (v := .int .u8 (v : Int)) rfl (ux_add8 (m := 10) rfl rfl rfl (by have := HX.out; have := HX1.out; omega) (by have := HV16.out; omega)) ?_
      simp only [Act.put, zzA, zz0, zz1]
      refine wR (v := .int .u8 (v : Int)) rfl (gx_assign rfl rfl) ?_
      simp only [Act.put, zzA, zz0, zz1]
      go_upto_region 46 with fail
      refine wp_region_lit ?_
      refine wR (v := .int .u8 (v : Int)) rfl (exec_move rfl rfl) ?_
      simp only [Act.put, zzA, zz0, zz1]
      refine wR (v := .int .i64 16) rfl (exec_move rfl rfl) ?_
      simp only [Act.put, zzA, zz0, zz1]
      refine wR (v := .int .u8 16) (w' := wr) rfl (by kernel_rfl) ?_
      simp only [Act.put, zzA, zz0, zz1]
      refine wR (v := .bool false) rfl (ux_geq8 (n := v) (m := 16) rfl rfl rfl (decide_eq_false (by have := HV16.out; omega))) ?_
      simp only [Act.put, zzA, zz0, zz1]
      go_upto_region 48 with fail
      refine wp_region_lit ?_
      refine wR (v := .int .u64 (acc : Int)) rfl (exec_move rfl rfl) ?_
      simp only [Act.put, zzA, zz0, zz1]
      refine wR (v := .int .u64 1152921504606846976) rfl (exec_move rfl rfl) ?_
      simp only [Act.put, zzA, zz0, zz1]
      refine wR (v := .bool false) rfl (ux_geq (n := acc) (m := 1152921504606846976) rfl rfl rfl (decide_eq_false (by have := HAC.out; omega))) ?_
      simp only [Act.put, zzA, zz0, zz1]
      go_upto_region 50 with fail
      refine wp_region_lit ?_
      refine wR (v := .int .u64 (acc : Int)) rfl (exec_move rfl rfl) ?_
      simp only [Act.put, zzA, zz0, zz1]
      refine wR (v := .int .i64 16) rfl (exec_move rfl rfl) ?_
      simp only [Act.put, zzA, zz0, zz1]
      refine wR (v := .int .u64 16) (w' := wr) rfl (by kernel_rfl) ?_
      simp only [Act.put, zzA, zz0, zz1]
      refine wR (v := .int .u64 ((acc * 16 : Nat) : Int)) rfl (ux_mul (m := 16) rfl rfl rfl rfl (by have := HAC.out; omega)) ?_
      simp only [Act.put, zzA, zz0, zz1]
      refine wR (v := .int .u64 ((acc * 16 : Nat) : Int)) rfl (gx_assign rfl rfl) ?_
      simp only [Act.put, zzA, zz0, zz1]
      obtain ⟨a16, ha16⟩ : ∃ a16, a16 = acc * 16 := ⟨_, rfl⟩
      rw [← ha16]
      have HA16 := Lib.hid ha16
      clear ha16
      go_upto_region 51 with fail
      refine wp_region_lit ?_
      refine wR (v := .int .u64 (a16 : Int)) rfl (exec_move rfl rfl) ?_
      simp only [Act.put, zzA, zz0, zz1]
      refine wR (v := .int .u8 (v : Int)) rfl (exec_move rfl rfl) ?_
      simp only [Act.put, zzA, zz0, zz1]
      refine wR (v := .int .u64 (v : Int)) rfl (ux_8to64 rfl rfl (by have := HV16.out; omega)) ?_
      simp only [Act.put, zzA, zz0, zz1]
      refine wR (v := .int .u64 ((a16 + v : Nat) : Int)) rfl (ux_add rfl rfl rfl rfl (by have := HAC.out; have := HA16.out; have := HV16.out; omega)) ?_
      simp only [Act.put, zzA, zz0, zz1]
      refine wR (v := .int .u64 ((a16 + v : Nat) : Int)) rfl (gx_assign rfl rfl) ?_
      simp only [Act.put, zzA, zz0, zz1]
      obtain ⟨an, han⟩ : ∃ an, an = a16 + v := ⟨_, rfl⟩
      rw [← han]
      have HAN := Lib.hid han
      clear han
      go_upto_region 52 with fail
      refine wp_region_lit ?_
      refine wR (v := .int .u64 (an : Int)) rfl (exec_move rfl rfl) ?_
      simp only [Act.put, zzA, zz0, zz1]
      refine wR (v := .int .u64 (a16 : Int)) rfl (exec_move rfl rfl) ?_
      simp only [Act.put, zzA, zz0, zz1]
      refine wR (v := .bool false) rfl (ux_lss rfl rfl rfl (decide_eq_false (by have := HAN.out; omega))) ?_
      simp only [Act.put, zzA, zz0, zz1]
      refine wR (v := .bool false) rfl (exec_move rfl rfl) ?_
      simp only [Act.put, zzA, zz0, zz1]
      refine wR (v := .int .u64 (an : Int)) rfl (exec_move rfl rfl) ?_
      simp only [Act.put, zzA, zz0, zz1]
      refine wR (v := .int .u64 18446744073709551615) rfl (exec_move rfl rfl) ?_
      simp only [Act.put, zzA, zz0, zz1]
      refine wR (v := .bool false) rfl (ux_gtr (m := 18446744073709551615) rfl rfl rfl (decide_eq_false (by have := HAC.out; have := HA16.out; have := HAN.out; have := HV16.out; omega))) ?_
      simp only [Act.put, zzA, zz0, zz1]
      refine wR (v := .bool false) rfl (ix_pickF rfl rfl rfl) ?_
      simp only [Act.put, zzA, zz0, zz1]
      go_wp2_with fail
      go_roundg (gk - 1)
      case measure => have := HJL.out; have := HLT.out; omega
      case rel => exact ⟨j + 1, an, by have := HJL.out; have := HLT.out; omega, rfl, by go_num, rfl, by rw [HAN.out, HA16.out, HAE.out, HTS.out, hexVal_snoc, HV.out], HTR.out⟩
  · have y1 : ¬ ((j : Int) < 16) := by omega
    have HE := Lib.hid (show acc = hexVal t from by rw [HAE.out, List.take_of_length_le (by rw [HL.out]; omega)])
    clear hlt
    go_wp2_with fail
    go_ret2
    rw [← HE.out]
    exact ⟨rfl, HT1.out.next HTR.out⟩
set_option maxRecDepth 20000 in
theorem puint_walk {w : World} {t : List UInt8} (hl : t.length = 16) (ho : onlyOf t hexs = true) :
    Calls Tryz.prog 102 #[strV t, .int .i64 16, .int .i64 64] w fun e w' => e = .returned (.tuple #[.int .u64 ((hexVal t : Nat) : Int), .nilIface]) ∧ Turn nowhere w w' := by
  have HP := Lib.hid (pint_walk (w := w) hl ho)
  clear hl ho
  go_enter Tryz.func102, Tryz.ntmps102
  go_wp2_with (go_at_call 119; refine HP.out.mono ?_; rintro e w1 ⟨rfl, ht1⟩)
  go_ret2
  exact ⟨rfl, ht1⟩
end Go.Proofs.YticofobhkmabiaaGreatDoor
namespace Go.Proofs.YticofobhkmabiaaGreatDoor
open Go.Shelf
def Tryz.lays134_ren : Go.Shelf.Ren := ⟨fun | 134 => 103 | 129 => 120 | n => n, fun | 53 => 135 | 3 => 3 | 4 => 4 | 46 => 172 | 5 => 5 | 9 => 9 | n => n, fun | n => n⟩
theorem Tryz.lays134 : Go.Proofs.Lays.n134 Tryz.prog Tryz.lays134_ren := {
  mixed := by kernel_rfl
  f129 := Tryz.func120.trans (congrArg some (by kernel_rfl))
  f134 := Tryz.func103.trans (congrArg some (by kernel_rfl))
  t3 := Tryz.underlying3
  a3 := Tryz.isAgg3
  z3 := Tryz.sizeOf3
  v3 := Tryz.zeroValue3
  t4 := Tryz.underlying4
  a4 := Tryz.isAgg4
  z4 := Tryz.sizeOf4
  v4 := Tryz.zeroValue4
  t5 := Tryz.underlying5
  a5 := Tryz.isAgg5
  z5 := Tryz.sizeOf5
  v5 := Tryz.zeroValue5
  t9 := Tryz.underlying9
  a9 := Tryz.isAgg9
  z9 := Tryz.sizeOf9
  v9 := Tryz.zeroValue9
  t46 := Tryz.underlying172
  a46 := Tryz.isAgg172
  z46 := Tryz.sizeOf172
  v46 := Tryz.zeroValue172
  t53 := Tryz.underlying135
  a53 := Tryz.isAgg135
  z53 := Tryz.sizeOf135
  v53 := Tryz.zeroValue135 }
end Go.Proofs.YticofobhkmabiaaGreatDoor
namespace Go.Proofs.YticofobhkmabiaaGreatDoor
open Go.RowKit
open Fdd
set_option linter.unusedVariables false
set_option linter.unusedSimpArgs false
theorem bitLen_rng {h : Nat} (h0 : h ≠ 0) (hl : h < 2 ^ 64) : ∃ L, Lib.bitLen h = L + 1 ∧ L < 64 ∧ 2 ^ L ≤ h ∧ h < 2 ^ (L + 1) := by
  have key : ∀ (n h : Nat), h ≠ 0 → h < 2 ^ 64 → h < 2 ^ n → ∃ L, Lib.bitLen h = L + 1 ∧ 2 ^ L ≤ h ∧ h < 2 ^ (L + 1) := by
    intro n
    induction n with
    | zero => intro h h0 _ h1; simp at h1; omega
    | succ n ih =>
      intro h h0 hl h1
      by_cases h2 : h / 2 = 0
      · have h3 : h = 1 := by omega
        subst h3
        exact ⟨0, by rw [Lib.bitLen_half 1 (by decide) (by decide)]; rfl, by decide, by decide⟩
      · obtain ⟨L, a1, a2, a3⟩ := ih (h / 2) h2 (by omega) (by rw [Nat.pow_succ] at h1; omega)
        refine ⟨L + 1, by rw [Lib.bitLen_half h h0 hl, a1]; omega, by rw [Nat.pow_succ]; omega, by rw [Nat.pow_succ]; omega⟩
  obtain ⟨L, a1, a2, a3⟩ := key 64 h h0 hl hl
  refine ⟨L, a1, ?_, a2, a3⟩
  apply Nat.lt_of_not_le
  intro hge
  have := Nat.pow_le_pow_right (n := 2) (by decide) hge
  omega
theorem sub_top {h L : Nat} (h1 : 2 ^ L ≤ h) (h2 : h < 2 ^ (L + 1)) : h % 2 ^ L = h - 2 ^ L := by
  rw [Nat.pow_succ] at h2
  rw [Nat.mod_eq_sub_mod h1, Nat.mod_eq_of_lt (by omega)]
theorem testBit_top {h L : Nat} (h1 : 2 ^ L ≤ h) (h2 : h < 2 ^ (L + 1)) : h.testBit L = true := by
  have h3 : h / 2 ^ L = 1 := Nat.div_eq_of_lt_le (by omega) (by rw [Nat.pow_succ] at h2; omega)
  rw [Nat.testBit_eq_decide_div_mod_eq, h3]
  rfl
theorem andNot_top {h L : Nat} (hL : L < 64) (h1 : 2 ^ L ≤ h) (h2 : h < 2 ^ (L + 1)) (hl : h < 2 ^ 64) : h &&& (18446744073709551615 - 2 ^ L) = h % 2 ^ L := by
  refine Nat.eq_of_testBit_eq fun i => ?_
  have e : (18446744073709551615 - 2 ^ L).testBit i = (decide (i < 64) && !decide (i = L)) := by
    have h3 : 18446744073709551615 - 2 ^ L = 2 ^ 64 - (2 ^ L + 1) := by omega
    rw [h3, Nat.testBit_two_pow_sub_succ (pow_lt64 hL), Nat.testBit_two_pow]
    congr 1
    by_cases hh : L = i <;> simp [hh, eq_comm]
  rw [Nat.testBit_and, e, Nat.testBit_mod_two_pow]
  by_cases hi : i < L
  · have a1 : i < 64 := by omega
    have a2 : ¬ (i = L) := by omega
    simp [hi, a1, a2]
  · by_cases hiL : i = L
    · simp [hi, hiL]
    · have : h.testBit i = false := Nat.testBit_lt_two_pow (Nat.lt_of_lt_of_le h2 (Nat.pow_le_pow_right (by decide) (by omega)))
      simp [hi, this]
/-- the first of the numbers, and the others -/
theorem nums_top {h a L : Nat} (hL : L < 64) (h1 : 2 ^ L ≤ h) (h2 : h < 2 ^ (L + 1)) : nums h a = ((a + (64 - L) : Nat) : Int) :: nums (h % 2 ^ L) a := by
  refine rise_eq (rise_nums _ _) (List.pairwise_cons.2 ⟨fun x hx => ?_, rise_nums _ _⟩) fun x => ?_
  · obtain ⟨i, hi, hb, rfl⟩ := mem_nums.1 hx
    rw [Nat.testBit_mod_two_pow, Bool.and_eq_true, decide_eq_true_eq] at hb
    omega
  · rw [List.mem_cons, mem_nums, mem_nums]
    constructor
    · rintro ⟨i, hi, hb, rfl⟩
      by_cases hiL : 63 - i = L
      · left
        omega
      · right
        have hlt : 63 - i < L := by
          apply Nat.lt_of_not_le
          intro hge
          have : h.testBit (63 - i) = false := Nat.testBit_lt_two_pow (Nat.lt_of_lt_of_le h2 (Nat.pow_le_pow_right (by decide) (by omega)))
          rw [hb] at this
          cases this
        exact ⟨i, hi, by rw [Nat.testBit_mod_two_pow, hb, decide_eq_true hlt]; rfl, rfl⟩
    · rintro (rfl | ⟨i, hi, hb, rfl⟩)
      · exact ⟨63 - L, by omega, by rw [show 63 - (63 - L) = L from by omega]; exact testBit_top h1 h2, by omega⟩
      · rw [Nat.testBit_mod_two_pow, Bool.and_eq_true] at hb
        exact ⟨i, hi, hb.2, rfl⟩
theorem nums_len (h a : Nat) : (nums h a).length ≤ 64 := by
  unfold nums
  rw [List.length_map]
  have := List.length_filter_le (fun i => h.testBit (63 - i)) (List.range 64)
  simpa using this
/-- a row of ints of the call's own -/
def IRow (w : World) (B : Nat) (v : Value) (l : List Int) : Prop := w.ownsRow B 3 1 v l.length (l.map (Value.int .i64 ·))
theorem intInfo : (Tryz.prog.info? 3).map (fun i => (i.zero, i.size, i.bytes)) = some (some (.int .i64 0), 1, 8) := by kernel_rfl
theorem ints_append {W1 w : World} {v : Value} {l news : List Int} {A : Addr} {m c : Nat} {ty : TypeId} (hown : IRow w W1.heap.size v l) (hT : Turn nowhere W1 w) (hl : news.length = m) (hnews : ∀ j u, (news.map (Value.int .i64 ·))[j]? = some u → w.cell? (A.add j) = some u) (hs : l.length + m ≤ 1000) :
    ∃ A' c' w', (Builtin.append_ #[63, 63] ty #[v, .slice (some A) m c]).run Tryz.prog w = .ok (.slice A' (l.length + m) c') w' ∧ IRow w' W1.heap.size (.slice A' (l.length + m) c') (l ++ news) ∧ Turn nowhere W1 w' := by
  obtain ⟨i0, hi0, hz0, hz1, hz2⟩ := info_parts intInfo
  obtain ⟨v', w', h1, h2, h3, _, h5⟩ := run_append_own_at (P := Tryz.prog) w W1.heap.size 63 ty 3 i0 _ 1 8 Tryz.underlying63 hi0 hz0 hz1 hz2
    rfl (by omega) v l.length _ hown A m c (news.map (Value.int .i64 ·)) (by rw [List.length_map, hl, Nat.mul_one]) hnews (fun u hu => by
      obtain ⟨_, _, rfl⟩ := List.mem_map.1 hu
      rfl) (by unfold maxLen; omega) (by omega) hT.size
  have hform : ∃ A' c', v' = .slice A' (l.length + m) c' := by
    rcases h2.2 with ⟨rfl, h0⟩ | ⟨g, cap, cur, rfl, _⟩
    · exact ⟨none, 0, by rw [h0]⟩
    · exact ⟨_, _, rfl⟩
  obtain ⟨A', c', rfl⟩ := hform
  refine ⟨A', c', w', h1, ?_, hT.grown h3 fun g e hg => ?_⟩
  · unfold IRow
    rw [List.length_append, hl, List.map_append]
    exact h2
  · have := (hown.lt g e).1
    omega
theorem build_i1 (x : Int) (W : World) : (Instr.buildSlice 63 1 #[(0, .int .i64 x)]).run Tryz.prog W = .ok (.slice (some ⟨W.heap.size, 0, none⟩) 1 1) (W.alloc (.cells #[.int .i64 x] 3)) := by kernel_rfl
theorem irow_alloc {w : World} {B : Nat} {v : Value} {l : List Int} (h : IRow w B v l) (o : Obj) : IRow (w.alloc o) B v l := h.alloc o
set_option maxRecDepth 20000 in
set_option maxHeartbeats 1000000 in
theorem numbers_walk {w : World} {h a : Nat} (hl : h < 2 ^ 64) (ha : a ≤ 64) :
    Calls Tryz.prog 84 #[.int .u64 (h : Int), .int .i64 (a : Int)] w fun e w' => ∃ A c, e = .returned (.slice A (nums h a).length c) ∧ IRow w' w.heap.size (.slice A (nums h a).length c) (nums h a) ∧ Turn nowhere w w' := by
  have HA := Lib.hid ha
  have HH := Lib.hid hl
  have HN := Lib.hid (nums_len h a)
  clear hl ha
  go_enter Tryz.func84, Tryz.ntmps84
  go_wp2_with fail
  go_loopg [0, 5] (nums h a).length (fun gk hv lv wr => ∃ (q : Nat) (l : List Int) (A : Option Addr) (c : Nat), hv = .int .u64 (q : Int) ∧ lv = .slice A l.length c ∧ q < 2 ^ 64 ∧ (nums q a).length = gk ∧ l ++ nums q a = nums h a ∧ IRow wr w.heap.size (.slice A l.length c) l ∧ Turn nowhere w wr)
  case atStart => exact ⟨h, [], none, 0, rfl, rfl, HH.out, rfl, rfl, World.ownsRow_nil _ _ _ _, Turn.refl _ _⟩
  obtain ⟨q, l, A, c, rfl, rfl, hq, hgk, hln, hrow, htr⟩ := hrel
  have HQ := Lib.hid hq
  have HGK := Lib.hid hgk
  have HLN := Lib.hid hln
  have HRW := Lib.hid hrow
  have HTR := Lib.hid htr
  have HLL := Lib.hid (show l.length + (nums q a).length = (nums h a).length from by rw [← hln, List.length_append])
  clear hq hgk hln hrow htr
  by_cases h0 : q = 0
  · have y1 : (q : Int) = 0 := by omega
    have HE := Lib.hid (show l = nums h a from by
      have := HLN.out
      rw [h0, nums_zero, List.append_nil] at this
      exact this)
    clear h0
    go_wp2_with fail
    go_ret
    rw [← HE.out]
    exact ⟨_, _, rfl, HRW.out, HTR.out⟩
  · have y1 : ¬ ((q : Int) = 0) := by omega
    obtain ⟨L, hb, hL, h1, h2⟩ := bitLen_rng h0 HQ.out
    have HL := Lib.hid hL
    have H1 := Lib.hid h1
    have H2 := Lib.hid h2
    have HT := Lib.hid (nums_top (a := a) hL h1 h2)
    have hlz := Any.bits_LeadingZeros64 Tryz.lays134 (q : Int) wr (by omega) (by have := HQ.out; omega)
    rw [Int.toNat_natCast, hb, show (64 - ((L + 1 : Nat) : Int)) = ((63 - L : Nat) : Int) from by omega] at hlz
    have HLZ := Lib.hid hlz
    clear h0 hb hL h1 h2 hlz
    go_upto_region 3 with fail
    refine wp_region_lit ?_
    refine wR (v := .int .u64 (q : Int)) rfl (exec_move rfl rfl) ?_
    simp only [Act.put, zzA, zz0, zz1]
    refine wpList_op rfl fun K9 HK9 => ?_
    go_wp2_with fail
    refine (HLZ.out).mono ?_
    rintro e wr ⟨rfl, rfl⟩
    refine HK9.out _ _ ?_
    clear HK9
    try simp only [Act.put, zzA, zz0, zz1]
    refine wR (v := .int .i64 ((64 - L : Nat) : Int)) rfl (ix_add rfl rfl rfl (by have := HL.out; omega) (by have := HL.out; omega)) ?_
    simp only [Act.put, zzA, zz0, zz1]
    refine wR (v := .int .i64 ((64 - L : Nat) : Int)) rfl (gx_assign rfl rfl) ?_
    simp only [Act.put, zzA, zz0, zz1]
    obtain ⟨k, hk⟩ : ∃ k, k = 64 - L := ⟨_, rfl⟩
    rw [← hk]
    have HK := Lib.hid hk
    clear hk
    have hap := ints_append (W1 := w) (w := wr.alloc (.cells #[.int .i64 ((a + k : Nat) : Int)] 3)) (ty := 63) (c := 1) (m := 1) (news := [((a + k : Nat) : Int)]) (A := ⟨wr.heap.size, 0, none⟩) (irow_alloc HRW.out _) (HTR.out.alloc _) rfl (fun j u hj => by
      match j, hj with
      | 0, hj => injection hj with hj; subst hj; exact (Blk.new wr 3 #[.int .i64 ((a + k : Nat) : Int)]).cell 0
      | j + 1, hj => simp at hj) (by have := HLL.out; have := HN.out; omega)
    obtain ⟨A2, c2, w2, hrun, hrow2, ht2⟩ := hap
    have HRUN := Lib.hid hrun
    have HRW2 := Lib.hid hrow2
    have HT2 := Lib.hid ht2
    clear hrun hrow2 ht2
    go_upto_region 4 with fail
    refine wp_region_lit ?_
    refine wR (v := .slice A l.length c) rfl (exec_move rfl rfl) ?_
    simp only [Act.put, zzA, zz0, zz1]
    refine wR (v := .int .i64 (a : Int)) rfl (exec_move rfl rfl) ?_
    simp only [Act.put, zzA, zz0, zz1]
    refine wR (v := .int .i64 (k : Int)) rfl (exec_move rfl rfl) ?_
    simp only [Act.put, zzA, zz0, zz1]
    refine wR (v := .int .i64 ((a + k : Nat) : Int)) rfl (ix_add rfl rfl rfl (by omega) (by have := HK.out; have := HA.out; omega)) ?_
    simp only [Act.put, zzA, zz0, zz1]
    refine wR (v := .slice (some ⟨wr.heap.size, 0, none⟩) 1 1) (w' := wr.alloc (.cells #[.int .i64 ((a + k : Nat) : Int)] 3)) rfl (exec_buildSlice1 rfl rfl (build_i1 _ _)) ?_
    simp only [Act.put, zzA, zz0, zz1]
    refine wR (v := .slice A2 (l.length + 1) c2) (w' := w2) rfl (exec_append rfl rfl rfl HRUN.out) ?_
    simp only [Act.put, zzA, zz0, zz1]
    refine wR (v := .slice A2 (l.length + 1) c2) rfl (gx_assign rfl rfl) ?_
    simp only [Act.put, zzA, zz0, zz1]
    clear HRUN
    have HP := Lib.hid (show 2 ^ (64 - k) = 2 ^ L from by have := HK.out; have := HL.out; congr 1; omega)
    go_upto_region 5 with fail
    refine wp_region_lit ?_
    refine wR (v := .int .u64 (q : Int)) rfl (exec_move rfl rfl) ?_
    simp only [Act.put, zzA, zz0, zz1]
    refine wR (v := .int .i64 (k : Int)) rfl (exec_move rfl rfl) ?_
    simp only [Act.put, zzA, zz0, zz1]
    refine wpList_op rfl fun K9 HK9 => ?_
    go_wp2_with fail
    refine (bit_walk (n := k) (by have := HK.out; have := HL.out; omega)).mono ?_
    rintro e w2 ⟨rfl, rfl⟩
    refine HK9.out _ _ ?_
    clear HK9
    try simp only [Act.put, zzA, zz0, zz1]
    refine wR (v := .int .u64 ((q % 2 ^ L : Nat) : Int)) rfl (ux_andNot (m := 2 ^ (64 - k)) rfl rfl rfl HQ.out (by rw [HP.out]; exact pow_lt64 HL.out) (by rw [HP.out]; exact andNot_top HL.out H1.out H2.out HQ.out)) ?_
    simp only [Act.put, zzA, zz0, zz1]
    refine wR (v := .int .u64 ((q % 2 ^ L : Nat) : Int)) rfl (gx_assign rfl rfl) ?_
    simp only [Act.put, zzA, zz0, zz1]
    obtain ⟨q2, hq2⟩ : ∃ q2, q2 = q % 2 ^ L := ⟨_, rfl⟩
    rw [← hq2]
    have HQ2 := Lib.hid hq2
    clear hq2
    have HX := Lib.hid (show nums q a = ((a + k : Nat) : Int) :: nums q2 a from by rw [HT.out, HQ2.out, HK.out])
    go_wp2_with fail
    go_roundg (gk - 1)
    case measure =>
      have h := HGK.out
      rw [HX.out, List.length_cons] at h
      omega
    case rel =>
      refine ⟨q2, l ++ [((a + k : Nat) : Int)], A2, c2, rfl, by rw [List.length_append]; rfl, ?_, ?_, ?_, by rw [List.length_append]; exact HRW2.out, HT2.out⟩
      · have h1 := HQ.out
        have h2 : q2 ≤ q := by rw [HQ2.out]; exact Nat.mod_le _ _
        omega
      · have h := HGK.out
        rw [HX.out, List.length_cons] at h
        omega
      · have h := HLN.out
        rw [HX.out] at h
        rw [← h, List.append_assoc]
        rfl
end Go.Proofs.YticofobhkmabiaaGreatDoor
namespace Go.Proofs.YticofobhkmabiaaGreatDoor
open Go.RowKit
open Fdd
set_option linter.unusedVariables false
set_option linter.unusedSimpArgs false
theorem take_err {k s c : Nat} {b : List UInt8} {e : Int} (hm : (nf k s c).may = true) (h : (nf k s c).take b = .error e) : e = 42 ∨ e = 43 := by
  by_cases h2 : k = 2
  · subst h2
    rw [take_ll hm] at h
    split at h
    · rename_i e' he
      injection h with h
      subst h
      exact takeAll_err he
    · split at h
      · exact takeAll_err h
      · injection h with h
        exact .inl h.symm
  · rw [take_nl h2 hm] at h
    exact takeAll_err h
theorem errV_wrap {s : Sents} {no e : Int} (h : e = 42 ∨ e = 43) : ErrV s (wrapV s no e) e := by
  rcases h with rfl | rfl
  · exact ErrV.bytes no
  · exact ErrV.short no
theorem rd_range {w : World} {g d : Nat} {v : Value} (h : Blk w g 91 (rdA d v)) : w.rangeAt g 0 (tongA d).toList := fun j u hj => by
  rw [Nat.zero_add, h.cell j]
  match j, hj with
  | 0, hj => exact hj
  | 1, hj => exact hj
  | 2, hj => exact hj
/-- what a part's taking answers: a value and the rest, or an error -/
def PartP {α : Type} (s : Sents) (g d : Nat) (V : α → Value) (z : Value) (r : Except Int (α × List UInt8)) (w0 w : World) (e : Ending) (w' : World) : Prop :=
  (match r with
    | .ok (x, rest) => e = .returned (.tuple #[V x, .nilIface]) ∧ Rd w0 w' g d rest
    | .error k => ∃ v, e = .returned (.tuple #[z, v]) ∧ ErrV s v k ∧ k ≠ 0) ∧ Turn (only g) w w' ∧ Turn nowhere w0 w'
theorem only_trans {g : Nat} {w w1 w' : World} (h : Turn (only g) w w1) (h2 : Turn (only g) w1 w') : Turn (only g) w w' := h.next h2
theorem only_still {g : Nat} {w w1 w' : World} (h : Turn (only g) w w1) (h2 : Turn nowhere w1 w') : Turn (only g) w w' := h.trans h2 (fun _ _ e => e.elim)
theorem still_only {g : Nat} {w w' : World} (h : Turn nowhere w w') : Turn (only g) w w' := h.mono fun _ _ e => e.elim
set_option maxRecDepth 20000 in
set_option maxHeartbeats 1000000 in
theorem takeType_walk {s : Sents} {w0 w : World} {g d : Nat} {b : List UInt8} (hd : 1 ≤ d ∧ d ≤ 3) (he : Env s w0) (h0 : Turn nowhere w0 w) (hg0 : w0.heap.size ≤ g) (hr : Rd w0 w g d b) :
    Calls Tryz.prog 50 #[.pointer (some ⟨g, 0, none⟩)] w (PartP s g d (fun ty : Int => .int .i64 ty) (.int .i64 0) (takeType d b) w0 w) := by
  have HD := Lib.hid hd
  clear hd
  obtain ⟨A, n, c, hg, hbs, hnc, hnl, _⟩ := id hr
  have HE := Lib.hid he
  have H0 := Lib.hid h0
  have HG0 := Lib.hid hg0
  have HR := Lib.hid hr
  have HG := Lib.hid hg
  clear he h0 hg0 hr hg hbs hnc hnl
  go_enter Tryz.func50, Tryz.ntmps50
  go_upto_region 1 with fail
  refine wp_region_lit ?_
  refine wR (v := .pointer (some ⟨g, 0, none⟩)) rfl (exec_move rfl rfl) ?_
  simp only [Act.put, zzA, zz0, zz1]
  refine wR (v := .pointer (some ⟨g, 0, none⟩)) rfl (exec_move rfl rfl) ?_
  simp only [Act.put, zzA, zz0, zz1]
  refine wR (v := .pointer (some ⟨g, 0, none⟩)) rfl (exec_nil rfl rfl) ?_
  simp only [Act.put, zzA, zz0, zz1]
  refine wR (v := .pointer (some ⟨g, 0, none⟩)) rfl (exec_field (off := 0) (d := 0) rfl rfl (by kernel_rfl)) ?_
  simp only [Act.put, zzA, zz0, zz1]
  refine wR (v := tongV d) rfl (gx_loads rfl rfl (rd_range HG.out) Tryz.underlying70 rfl (by rw [size_tongue]; rfl)) ?_
  simp only [Act.put, zzA, zz0, zz1]
  refine wpList_op rfl fun K9 HK9 => ?_
  go_wp2_with fail
  refine (typeForm_walk).mono ?_
  rintro e w1 ⟨rfl, ht1⟩
  refine HK9.out _ _ ?_
  clear HK9
  try simp only [Act.put, zzA, zz0, zz1]
  have H1 := Lib.hid (H0.out.next ht1)
  have HR1 := Lib.hid (HR.out.still ht1)
  have HO1 := Lib.hid (still_only (g := g) ht1)
  clear ht1 HG
  refine wpList_op rfl fun K9 HK9 => ?_
  go_wp2_with fail
  refine (mtake_walk (s := s) (no := 0) (f := typeFm d) HE.out H1.out HG0.out HR1.out).mono ?_
  rintro e w2 ⟨rfl, hr2, ho2, h2⟩
  refine HK9.out _ _ ?_
  clear HK9
  try simp only [Act.put, zzA, zz0, zz1]
  have H2 := Lib.hid h2
  have HR2 := Lib.hid hr2
  have HO2 := Lib.hid (only_trans HO1.out ho2)
  clear h2 hr2 ho2 H1 HR1 HO1
  cases hk : (typeFm d).take b with
  | error k =>
    have hk4 : k = 42 ∨ k = 43 := take_err (k := 1) (s := 4) (c := d) (may_nf (by decide) HD.out (by decide)) hk
    have HK := Lib.hid hk4
    have HTT := Lib.hid (show takeType d b = .error k from by unfold takeType; rw [hk])
    have HV := Lib.hid (errV_wrap (s := s) (no := 0) hk4)
    obtain ⟨t9, x9, hv9⟩ := errV_some HV.out (by omega)
    rw [show tk (.error k) = (([] : List UInt8), ([] : List UInt8), k) from rfl] at *
    simp only []
    rw [hv9] at HV ⊢
    clear hk hk4 hv9
    refine wR (v := .tuple #[strV [], .iface t9 x9]) rfl (exec_move rfl rfl) ?_
    simp only [Act.put, zzA, zz0, zz1]
    refine wR (v := strV []) rfl (ix_extract rfl rfl rfl) ?_
    simp only [Act.put, zzA, zz0, zz1]
    refine wR (v := .iface t9 x9) rfl (ix_extract rfl rfl rfl) ?_
    simp only [Act.put, zzA, zz0, zz1]
    refine wR (v := strV []) rfl (gx_assign rfl rfl) ?_
    simp only [Act.put, zzA, zz0, zz1]
    refine wR (v := .iface t9 x9) rfl (gx_assign rfl rfl) ?_
    simp only [Act.put, zzA, zz0, zz1]
    go_wp2_with fail
    go_ret2
    unfold PartP
    rw [HTT.out]
    exact ⟨⟨_, rfl, HV.out, by have := HK.out; omega⟩, HO2.out, H2.out⟩
  | ok p =>
    obtain ⟨t, rest⟩ := p
    obtain ⟨hrt, _⟩ := fm_one (by decide) HD.out (by decide) (show (nf 1 4 d).take b = .ok (t, rest) from hk)
    obtain ⟨hl4, hon⟩ := right_n.1 hrt
    have HTT := Lib.hid (show takeType d b = match mtype d t with | none => .error 51 | some n => .ok (n, rest) from by unfold takeType; rw [hk]; rfl)
    have HR3 : Hid (Rd w0 w2 g d rest) := Lib.hid (by have := HR2.out; rw [hk] at this; exact this)
    have hw0 : wrapV s 0 (tk (.ok (t, rest))).2.2 = .nilIface := rfl
    rw [hw0, show (tk (.ok (t, rest))).1 = t from rfl]
    obtain ⟨vr, hvr⟩ := ver_one d
    have HVR := Lib.hid hvr
    have HL4 := Lib.hid hl4
    have HON := Lib.hid hon
    clear hk hrt hl4 hon hw0 hvr HR2
    refine wR (v := .tuple #[strV t, .nilIface]) rfl (exec_move rfl rfl) ?_
    simp only [Act.put, zzA, zz0, zz1]
    refine wR (v := strV t) rfl (ix_extract rfl rfl rfl) ?_
    simp only [Act.put, zzA, zz0, zz1]
    refine wR (v := .nilIface) rfl (ix_extract rfl rfl rfl) ?_
    simp only [Act.put, zzA, zz0, zz1]
    refine wR (v := strV t) rfl (gx_assign rfl rfl) ?_
    simp only [Act.put, zzA, zz0, zz1]
    refine wR (v := .nilIface) rfl (gx_assign rfl rfl) ?_
    simp only [Act.put, zzA, zz0, zz1]
    obtain ⟨A3, n3, c3, hg3, _⟩ := id HR3.out
    have cv : w2.cell? ⟨g, 1, none⟩ = some (strV (ver d)) := hg3.cell 1
    have HNE := Lib.hid (show Lib.trimPrefix t (ver d) ≠ [] from by
      intro h
      have h4 := HL4.out
      unfold Lib.trimPrefix at h
      rw [HVR.out] at h
      split at h
      · have := congrArg List.length h
        simp [h4] at this
      · rw [h] at h4
        cases h4)
    have HAM := Lib.hid (show amountOf (Lib.trimPrefix t (ver d)) = (((val (Lib.trimPrefix t (ver d)) : Nat) : Int), 0) from by
      unfold amountOf
      rw [if_pos]
      have h4 := HL4.out
      have hon := HON.out
      refine ⟨?_, ?_, HNE.out⟩
      · unfold Lib.trimPrefix
        split
        · rw [List.length_drop]; omega
        · omega
      · unfold Lib.trimPrefix
        split
        · unfold onlyOf at hon ⊢
          rw [List.all_eq_true] at hon ⊢
          exact fun c hc => hon c (List.mem_of_mem_drop hc)
        · exact hon)
    clear hg3
    go_upto_region 4 with fail
    refine wp_region_lit ?_
    refine wR (v := strV t) rfl (exec_move rfl rfl) ?_
    simp only [Act.put, zzA, zz0, zz1]
    refine wR (v := .pointer (some ⟨g, 0, none⟩)) rfl (exec_move rfl rfl) ?_
    simp only [Act.put, zzA, zz0, zz1]
    refine wR (v := .pointer (some ⟨g, 0, none⟩)) rfl (exec_nil rfl rfl) ?_
    simp only [Act.put, zzA, zz0, zz1]
    refine wR (v := .pointer (some ⟨g, 0, none⟩)) rfl (exec_field (off := 0) (d := 0) rfl rfl (by kernel_rfl)) ?_
    simp only [Act.put, zzA, zz0, zz1]
    refine wR (v := .pointer (some ⟨g, 1, none⟩)) rfl (exec_field (off := 0) (d := 1) rfl rfl (by kernel_rfl)) ?_
    simp only [Act.put, zzA, zz0, zz1]
    refine wR (v := strV (ver d)) rfl (exec_load1 rfl rfl (by kernel_rfl) cv) ?_
    simp only [Act.put, zzA, zz0, zz1]
    refine wpList_op rfl fun K9 HK9 => ?_
    go_wp2_with fail
    refine (cut_walk).mono ?_
    rintro e w2 ⟨rfl, rfl⟩
    refine HK9.out _ _ ?_
    clear HK9
    try simp only [Act.put, zzA, zz0, zz1]
    clear cv
    have HMT := Lib.hid (show mtype d t = if (ver d).isPrefixOf t = true then if mtypes.contains ((val (Lib.trimPrefix t (ver d)) : Nat) : Int) = true then some ((val (Lib.trimPrefix t (ver d)) : Nat) : Int) else none else none from by
      unfold mtype
      by_cases hp : (ver d).isPrefixOf t = true
      · rw [if_pos hp, if_pos hp]
        have e1 : t.drop 1 = Lib.trimPrefix t (ver d) := by rw [trim_t hp, HVR.out]; rfl
        rw [e1, if_pos]
        have h := HAM.out
        unfold amountOf at h
        split at h
        · assumption
        · injection h with _ h
          cases h
      · rw [if_neg hp, if_neg hp])
    obtain ⟨tn, htn⟩ : ∃ tn, tn = Lib.trimPrefix t (ver d) := ⟨_, rfl⟩
    obtain ⟨ip, hip⟩ : ∃ ip, ip = (ver d).isPrefixOf t := ⟨_, rfl⟩
    rw [← htn] at HNE HAM HMT ⊢
    rw [← hip] at HMT ⊢
    clear htn hip
    refine wR (v := .tuple #[strV tn, .bool ip]) rfl (exec_move rfl rfl) ?_
    simp only [Act.put, zzA, zz0, zz1]
    refine wR (v := strV tn) rfl (ix_extract rfl rfl rfl) ?_
    simp only [Act.put, zzA, zz0, zz1]
    refine wR (v := .bool ip) rfl (ix_extract rfl rfl rfl) ?_
    simp only [Act.put, zzA, zz0, zz1]
    refine wR (v := strV tn) rfl (gx_assign rfl rfl) ?_
    simp only [Act.put, zzA, zz0, zz1]
    refine wR (v := .bool ip) rfl (gx_assign rfl rfl) ?_
    simp only [Act.put, zzA, zz0, zz1]
    have ham := amount_walk (t := tn) w2 (fun h => absurd h HNE.out)
    rw [HAM.out] at ham
    have HAW := Lib.hid ham
    clear ham
    go_upto_region 5 with fail
    refine wp_region_lit ?_
    refine wR (v := strV tn) rfl (exec_move rfl rfl) ?_
    simp only [Act.put, zzA, zz0, zz1]
    refine wpList_op rfl fun K9 HK9 => ?_
    go_wp2_with fail
    refine (HAW.out).mono ?_
    rintro e w4 ⟨rfl, ht4⟩
    refine HK9.out _ _ ?_
    clear HK9
    try simp only [Act.put, zzA, zz0, zz1]
    obtain ⟨vn, hvn⟩ : ∃ vn, vn = val tn := ⟨_, rfl⟩
    rw [← hvn] at HMT ⊢
    have H4 := Lib.hid (H2.out.next ht4)
    have HR4 := Lib.hid (HR3.out.still ht4)
    have HO4 := Lib.hid (only_still HO2.out ht4)
    clear ht4 hvn HAW H2 HR3 HO2
    refine wR (v := .tuple #[.int .i64 (vn : Int), .int .i64 0]) rfl (exec_move rfl rfl) ?_
    simp only [Act.put, zzA, zz0, zz1]
    refine wR (v := .int .i64 (vn : Int)) rfl (ix_extract rfl rfl rfl) ?_
    simp only [Act.put, zzA, zz0, zz1]
    refine wR (v := .int .i64 0) rfl (ix_extract rfl rfl rfl) ?_
    simp only [Act.put, zzA, zz0, zz1]
    refine wR (v := .int .i64 (vn : Int)) rfl (gx_assign rfl rfl) ?_
    simp only [Act.put, zzA, zz0, zz1]
    refine wR (v := .int .i64 0) rfl (gx_assign rfl rfl) ?_
    simp only [Act.put, zzA, zz0, zz1]
    have g2 : w4.cell? ⟨1, 0, none⟩ = some (errS s.type_) := (HE.out.turn H4.out).sen.type_.1
    cases ip with
    | false =>
      have HF := Lib.hid (show takeType d b = .error 51 from by rw [HTT.out, HMT.out]; rfl)
      go_upto_region 7 with fail
      have hS0 : w4.drew.cell? ⟨1, 0, none⟩ = some (errS s.type_) := g2
      have H5 : Hid (Turn nowhere w0 w4.drew) := Lib.hid H4.out.drew
      have HO5 : Hid (Turn (only g) w w4.drew) := Lib.hid HO4.out.drew
      clear HR4 g2 H4 HO4
      refine wp_region_alw (fun W => W.cell? ⟨1, 0, none⟩ = some (errS s.type_)) (by kernel_rfl) ?_
      generalize w4.drew = w5 at *
      refine alw_take (i := 0) (v := errS s.type_) rfl (by kernel_rfl) (by kernel_rfl) (fun _ _ _ h => h) (.inl ⟨by rfl, fun W hW => exec_load1 rfl rfl (by kernel_rfl) hW⟩) hS0 ?_
      simp only [Act.put, zzA, zz0, zz1]
      refine alw_take (i := 1) (v := .int .i64 0) rfl (by kernel_rfl) (by kernel_rfl) (fun _ _ _ h => h) (.inl ⟨by rfl, fun W hW => gx_assign rfl rfl⟩) hS0 ?_
      simp only [Act.put, zzA, zz0, zz1]
      refine alw_take (i := 2) (v := errS s.type_) rfl (by kernel_rfl) (by kernel_rfl) (fun _ _ _ h => h) (.inl ⟨by rfl, fun W hW => gx_assign rfl rfl⟩) hS0 ?_
      simp only [Act.put, zzA, zz0, zz1]
      refine alw_done rfl ?_
      clear hS0
      refine NoPanic.normal ?_
      go_wp2_with fail
      go_ret2
      unfold PartP
      rw [HF.out]
      exact ⟨⟨_, rfl, ErrV.type_, by decide⟩, HO5.out, H5.out⟩
    | true =>
      have hit := isType_walk (w := w4) (n := (vn : Int))
      cases hty : mtypes.contains (vn : Int) with
      | false =>
        have HF := Lib.hid (show takeType d b = .error 51 from by rw [HTT.out, HMT.out, hty]; rfl)
        rw [hty] at hit
        have HIT := Lib.hid hit
        clear hit hty
        go_upto_region 7 with (go_at_call 45; refine HIT.out.mono ?_; rintro e w4 ⟨rfl, rfl⟩)
        have hS0 : w4.drew.cell? ⟨1, 0, none⟩ = some (errS s.type_) := g2
        have H5 : Hid (Turn nowhere w0 w4.drew) := Lib.hid H4.out.drew
        have HO5 : Hid (Turn (only g) w w4.drew) := Lib.hid HO4.out.drew
        clear HR4 g2 H4 HO4
        refine wp_region_alw (fun W => W.cell? ⟨1, 0, none⟩ = some (errS s.type_)) (by kernel_rfl) ?_
        generalize w4.drew = w5 at *
        refine alw_take (i := 0) (v := errS s.type_) rfl (by kernel_rfl) (by kernel_rfl) (fun _ _ _ h => h) (.inl ⟨by rfl, fun W hW => exec_load1 rfl rfl (by kernel_rfl) hW⟩) hS0 ?_
        simp only [Act.put, zzA, zz0, zz1]
        refine alw_take (i := 1) (v := .int .i64 0) rfl (by kernel_rfl) (by kernel_rfl) (fun _ _ _ h => h) (.inl ⟨by rfl, fun W hW => gx_assign rfl rfl⟩) hS0 ?_
        simp only [Act.put, zzA, zz0, zz1]
        refine alw_take (i := 2) (v := errS s.type_) rfl (by kernel_rfl) (by kernel_rfl) (fun _ _ _ h => h) (.inl ⟨by rfl, fun W hW => gx_assign rfl rfl⟩) hS0 ?_
        simp only [Act.put, zzA, zz0, zz1]
        refine alw_done rfl ?_
        clear hS0
        refine NoPanic.normal ?_
        go_wp2_with fail
        go_ret2
        unfold PartP
        rw [HF.out]
        exact ⟨⟨_, rfl, ErrV.type_, by decide⟩, HO5.out, H5.out⟩
      | true =>
        have HF := Lib.hid (show takeType d b = .ok ((vn : Int), rest) from by rw [HTT.out, HMT.out, hty]; rfl)
        rw [hty] at hit
        have HIT := Lib.hid hit
        clear hit hty
        go_wp2_with (go_at_call 45; refine HIT.out.mono ?_; rintro e w4 ⟨rfl, rfl⟩)
        go_ret2
        unfold PartP
        rw [HF.out]
        exact ⟨⟨rfl, HR4.out⟩, HO4.out, H4.out⟩
set_option maxRecDepth 20000 in
set_option maxHeartbeats 1000000 in
theorem takeBits_walk {s : Sents} {w0 w : World} {g d : Nat} {b : List UInt8} (hd : 1 ≤ d ∧ d ≤ 3) (he : Env s w0) (h0 : Turn nowhere w0 w) (hg0 : w0.heap.size ≤ g) (hr : Rd w0 w g d b) :
    Calls Tryz.prog 82 #[.pointer (some ⟨g, 0, none⟩)] w (PartP s g d (fun h : Nat => .int .u64 (h : Int)) (.int .u64 0) (takeHalf d b) w0 w) := by
  have HD := Lib.hid hd
  clear hd
  obtain ⟨A, n, c, hg, hbs, hnc, hnl, _⟩ := id hr
  have HE := Lib.hid he
  have H0 := Lib.hid h0
  have HG0 := Lib.hid hg0
  have HR := Lib.hid hr
  have HG := Lib.hid hg
  clear he h0 hg0 hr hg hbs hnc hnl
  go_enter Tryz.func82, Tryz.ntmps82
  go_upto_region 1 with fail
  refine wp_region_lit ?_
  refine wR (v := .pointer (some ⟨g, 0, none⟩)) rfl (exec_move rfl rfl) ?_
  simp only [Act.put, zzA, zz0, zz1]
  refine wR (v := .pointer (some ⟨g, 0, none⟩)) rfl (exec_move rfl rfl) ?_
  simp only [Act.put, zzA, zz0, zz1]
  refine wR (v := .pointer (some ⟨g, 0, none⟩)) rfl (exec_nil rfl rfl) ?_
  simp only [Act.put, zzA, zz0, zz1]
  refine wR (v := .pointer (some ⟨g, 0, none⟩)) rfl (exec_field (off := 0) (d := 0) rfl rfl (by kernel_rfl)) ?_
  simp only [Act.put, zzA, zz0, zz1]
  refine wR (v := tongV d) rfl (gx_loads rfl rfl (rd_range HG.out) Tryz.underlying70 rfl (by rw [size_tongue]; rfl)) ?_
  simp only [Act.put, zzA, zz0, zz1]
  refine wpList_op rfl fun K9 HK9 => ?_
  go_wp2_with fail
  refine (mapForm_walk).mono ?_
  rintro e w1 ⟨rfl, ht1⟩
  refine HK9.out _ _ ?_
  clear HK9
  try simp only [Act.put, zzA, zz0, zz1]
  have H1 := Lib.hid (H0.out.next ht1)
  have HR1 := Lib.hid (HR.out.still ht1)
  have HO1 := Lib.hid (still_only (g := g) ht1)
  clear ht1 HG
  refine wpList_op rfl fun K9 HK9 => ?_
  go_wp2_with fail
  refine (mtake_walk (s := s) (no := 1) (f := mapFm d) HE.out H1.out HG0.out HR1.out).mono ?_
  rintro e w2 ⟨rfl, hr2, ho2, h2⟩
  refine HK9.out _ _ ?_
  clear HK9
  try simp only [Act.put, zzA, zz0, zz1]
  have H2 := Lib.hid h2
  have HR2 := Lib.hid hr2
  have HO2 := Lib.hid (only_trans HO1.out ho2)
  clear h2 hr2 ho2 H1 HR1 HO1
  cases hk : (mapFm d).take b with
  | error k =>
    have hk4 : k = 42 ∨ k = 43 := take_err (k := 4) (s := 8) (c := d) (may_nf (by decide) HD.out (by decide)) hk
    have HK := Lib.hid hk4
    have HTT := Lib.hid (show takeHalf d b = .error k from by unfold takeHalf; rw [hk])
    have HV := Lib.hid (errV_wrap (s := s) (no := 1) hk4)
    obtain ⟨t9, x9, hv9⟩ := errV_some HV.out (by omega)
    rw [show tk (.error k) = (([] : List UInt8), ([] : List UInt8), k) from rfl] at *
    simp only []
    rw [hv9] at HV ⊢
    clear hk hk4 hv9
    refine wR (v := .tuple #[strV [], .iface t9 x9]) rfl (exec_move rfl rfl) ?_
    simp only [Act.put, zzA, zz0, zz1]
    refine wR (v := strV []) rfl (ix_extract rfl rfl rfl) ?_
    simp only [Act.put, zzA, zz0, zz1]
    refine wR (v := .iface t9 x9) rfl (ix_extract rfl rfl rfl) ?_
    simp only [Act.put, zzA, zz0, zz1]
    refine wR (v := strV []) rfl (gx_assign rfl rfl) ?_
    simp only [Act.put, zzA, zz0, zz1]
    refine wR (v := .iface t9 x9) rfl (gx_assign rfl rfl) ?_
    simp only [Act.put, zzA, zz0, zz1]
    go_wp2_with fail
    go_ret2
    unfold PartP
    rw [HTT.out]
    exact ⟨⟨_, rfl, HV.out, by have := HK.out; omega⟩, HO2.out, H2.out⟩
  | ok p =>
    obtain ⟨t, rest⟩ := p
    obtain ⟨hrt, _⟩ := fm_one (by decide) HD.out (by decide) (show (nf 4 8 d).take b = .ok (t, rest) from hk)
    obtain ⟨hl16, hon⟩ := right_b.1 hrt
    have HTT := Lib.hid (show takeHalf d b = .ok (hexVal t, rest) from by unfold takeHalf; rw [hk])
    have HR3 : Hid (Rd w0 w2 g d rest) := Lib.hid (by have := HR2.out; rw [hk] at this; exact this)
    have hw0 : wrapV s 1 (tk (.ok (t, rest))).2.2 = .nilIface := rfl
    rw [hw0, show (tk (.ok (t, rest))).1 = t from rfl]
    have HPU := Lib.hid (puint_walk (w := w2) hl16 hon)
    clear hk hrt hl16 hon hw0 HR2
    refine wR (v := .tuple #[strV t, .nilIface]) rfl (exec_move rfl rfl) ?_
    simp only [Act.put, zzA, zz0, zz1]
    refine wR (v := strV t) rfl (ix_extract rfl rfl rfl) ?_
    simp only [Act.put, zzA, zz0, zz1]
    refine wR (v := .nilIface) rfl (ix_extract rfl rfl rfl) ?_
    simp only [Act.put, zzA, zz0, zz1]
    refine wR (v := strV t) rfl (gx_assign rfl rfl) ?_
    simp only [Act.put, zzA, zz0, zz1]
    refine wR (v := .nilIface) rfl (gx_assign rfl rfl) ?_
    simp only [Act.put, zzA, zz0, zz1]
    go_upto_region 4 with fail
    refine wp_region_lit ?_
    refine wR (v := strV t) rfl (exec_move rfl rfl) ?_
    simp only [Act.put, zzA, zz0, zz1]
    refine wpList_op rfl fun K9 HK9 => ?_
    go_wp2_with fail
    refine (HPU.out).mono ?_
    rintro e w4 ⟨rfl, ht4⟩
    refine HK9.out _ _ ?_
    clear HK9
    try simp only [Act.put, zzA, zz0, zz1]
    refine wR (v := .int .u64 ((hexVal t : Nat) : Int)) rfl (ix_extract rfl rfl rfl) ?_
    simp only [Act.put, zzA, zz0, zz1]
    refine wR (v := .nilIface) rfl (ix_extract rfl rfl rfl) ?_
    simp only [Act.put, zzA, zz0, zz1]
    refine wR (v := .int .u64 ((hexVal t : Nat) : Int)) rfl (gx_assign rfl rfl) ?_
    simp only [Act.put, zzA, zz0, zz1]
    refine wR (v := .nilIface) rfl (gx_assign rfl rfl) ?_
    simp only [Act.put, zzA, zz0, zz1]
    have HT4 := Lib.hid ht4
    clear ht4
    go_wp2_with fail
    go_ret2
    unfold PartP
    rw [HTT.out]
    exact ⟨⟨rfl, HR3.out.still HT4.out⟩, only_still HO2.out HT4.out, H2.out.next HT4.out⟩
end Go.Proofs.YticofobhkmabiaaGreatDoor
