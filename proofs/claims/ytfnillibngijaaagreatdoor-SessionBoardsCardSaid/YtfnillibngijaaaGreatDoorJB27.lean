/-
  Texts in one file: SsB MsId. Conditions: the tables and the errors read as the program's text lays them.
-/
import Derived.Test.YtfnillibngijaaaGreatDoorJB26
import Derived.Test.YtfnillibngijaaaGreatDoorJB24
namespace Go.Proofs.YtfnillibngijaaaGreatDoor
open Go.RowKit
open Sh (Wd B8 H8)
open Fdd
set_option linter.unusedVariables false
set_option linter.unusedSimpArgs false
set_option maxRecDepth 20000
theorem build_f09 (W : World) : (Instr.buildSlice 47 0 #[]).run Tryz.prog W = .ok (.slice (some ⟨W.heap.size, 0, none⟩) 0 0) (W.alloc (.cells #[] 53)) := by kernel_rfl
theorem size_mg : (Tryz.prog.info? 49).map (·.size) = some 2 := by kernel_rfl
theorem box_mg (ty : Int) (A : Option Addr) (n c : Nat) (w : World) : (Instr.box 49 (msgV ty A n c)).run Tryz.prog w = .ok (.pointer (some ⟨w.heap.size, 0, none⟩)) (w.alloc (.cells #[.int .i64 ty, .slice A n c] 49)) := by
  simp [Instr.box, newVar, newRow, Result.andThen, Value.cells, msgV]
theorem zero_mg (w : World) : (zeroValue 49).run Tryz.prog w = .ok (.agg #[.int .i64 0, .slice none 0 0]) w := by kernel_rfl
theorem mg_one (ty : Int) (A : Option Addr) (n c : Nat) : ∀ v ∈ (#[.int .i64 ty, .slice A n c] : Array Value).toList, v.oneCell' = true := fun v hv => by
  simp only [List.mem_cons, List.not_mem_nil, or_false] at hv
  rcases hv with rfl | rfl <;> rfl
set_option maxRecDepth 20000 in
set_option maxHeartbeats 4000000 in
theorem fclone_walk {w : World} {A : Option Addr} {n c : Nat} {fs : List Fld} (hf : Fl w A n fs) (hz : A = none → c = 0) (hn : n ≤ 5864062014800) : Calls Tryz.prog 35 #[.slice A n c] w fun e w' => ∃ A' c', e = .returned (.slice A' n c') ∧ FRow w' w.heap.size (.slice A' n c') fs ∧ Turn nowhere w w' := by
  have HF := Lib.hid hf
  have HZ := Lib.hid hz
  have HN := Lib.hid hn
  clear hf hz hn
  go_enter Tryz.func35, Tryz.ntmps35
  by_cases hA : A = none
  · have HC := Lib.hid (HZ.out hA)
    subst hA
    have h0 : n = 0 := by
      rcases Nat.eq_zero_or_pos n with h | h
      · exact h
      · obtain ⟨b, off, e, _⟩ := HF.out.2.2 h
        cases e
    have HE := Lib.hid (show fs = [] from List.eq_nil_of_length_eq_zero (HF.out.1.trans h0))
    subst h0
    have hc0 := HC.out
    clear HZ HC
    subst hc0
    go_upto_region 0 with fail
    refine wp_region_lit ?_
    refine wpList_run (v := .slice none 0 0) (wanted_none rfl) (gx_assign rfl rfl) ?_
    simp only [Act.put, List.setIfInBounds_toArray, List.set_cons_zero, List.set_cons_succ]
    go_upto_region 1 with fail
    refine wp_region_lit ?_
    refine wpList_run (v := .slice none 0 0) (wanted_none rfl) (exec_move rfl rfl) ?_
    simp only [Act.put, List.setIfInBounds_toArray, List.set_cons_zero, List.set_cons_succ]
    refine wpList_run (v := .bool true) (wanted_none rfl) (exec_eqnil rfl rfl rfl Tryz.underlying47 rfl) ?_
    simp only [Act.put, List.setIfInBounds_toArray, List.set_cons_zero, List.set_cons_succ]
    go_upto_region 2 with fail
    refine wp_region_lit ?_
    refine wpList_run (v := .slice none 0 0) (wanted_none rfl) (gx_assign rfl rfl) ?_
    simp only [Act.put, List.setIfInBounds_toArray, List.set_cons_zero, List.set_cons_succ]
    go_wp2_with fail
    go_ret
    exact ⟨none, 0, rfl, by rw [HE.out]; exact FRow.nil _ _, Turn.refl _ _⟩
  · have HA := Lib.hid (show A.isNone = false from by cases A with | none => exact absurd rfl hA | some x => rfl)
    obtain ⟨A6, c6, w6, hap, ho6, ht6⟩ := copy_fs (ty := 47) (c := c) HF.out HZ.out (by have := HN.out; omega)
    have HAP := Lib.hid hap
    have HO6 := Lib.hid ho6
    have HT6 := Lib.hid ht6
    clear hA hap ho6 ht6
    go_upto_region 0 with fail
    refine wp_region_lit ?_
    refine wpList_run (v := .slice none 0 0) (wanted_none rfl) (gx_assign rfl rfl) ?_
    simp only [Act.put, List.setIfInBounds_toArray, List.set_cons_zero, List.set_cons_succ]
    go_upto_region 1 with fail
    refine wp_region_lit ?_
    refine wpList_run (v := .slice A n c) (wanted_none rfl) (exec_move rfl rfl) ?_
    simp only [Act.put, List.setIfInBounds_toArray, List.set_cons_zero, List.set_cons_succ]
    refine wpList_run (v := .bool false) (wanted_none rfl) (exec_eqnil rfl rfl rfl Tryz.underlying47 HA.out) ?_
    simp only [Act.put, List.setIfInBounds_toArray, List.set_cons_zero, List.set_cons_succ]
    go_upto_region 3 with fail
    refine wp_region_lit ?_
    refine wpList_run (v := .slice (some ⟨w.heap.size, 0, none⟩) 0 0) (w' := w.alloc (.cells #[] 53)) (wanted_none rfl) (bx_slice0 rfl (build_f09 w)) ?_
    simp only [Act.put, List.setIfInBounds_toArray, List.set_cons_zero, List.set_cons_succ]
    refine wpList_run (v := .slice A n c) (wanted_none rfl) (exec_move rfl rfl) ?_
    simp only [Act.put, List.setIfInBounds_toArray, List.set_cons_zero, List.set_cons_succ]
    refine wpList_run (v := .slice A6 n c6) (w' := w6) (wanted_none rfl) (exec_append rfl rfl rfl HAP.out) ?_
    simp only [Act.put, List.setIfInBounds_toArray, List.set_cons_zero, List.set_cons_succ]
    refine wpList_run (v := .slice A6 n c6) (wanted_none rfl) (gx_assign rfl rfl) ?_
    simp only [Act.put, List.setIfInBounds_toArray, List.set_cons_zero, List.set_cons_succ]
    go_wp2_with fail
    go_ret
    exact ⟨A6, c6, rfl, HO6.out, HT6.out⟩
set_option maxRecDepth 20000 in
set_option maxHeartbeats 4000000 in
theorem fdel_nil (w : World) : Calls Tryz.prog 34 #[.slice none 0 0, isMacV] w fun e w' => e = .returned (.slice none 0 0) ∧ Turn nowhere w w' := by
  go_enter Tryz.func34, Tryz.ntmps34
  go_upto_region 0 with fail
  refine wp_region_lit ?_
  refine wpList_run (v := .slice none 0 0) (wanted_none rfl) (gx_assign rfl rfl) ?_
  simp only [Act.put, List.setIfInBounds_toArray, List.set_cons_zero, List.set_cons_succ]
  go_upto_region 1 with fail
  refine wp_region_lit ?_
  refine wpList_run (v := .slice none 0 0) (wanted_none rfl) (exec_move rfl rfl) ?_
  simp only [Act.put, List.setIfInBounds_toArray, List.set_cons_zero, List.set_cons_succ]
  refine wpList_run (v := isMacV) (wanted_none rfl) (exec_move rfl rfl) ?_
  simp only [Act.put, List.setIfInBounds_toArray, List.set_cons_zero, List.set_cons_succ]
  refine wpList_op_g rfl fun K9 HK9 => ?_
  go_wp2_with fail
  refine (fIndex_walk (c := 0) (show Fl w none 0 [] from ⟨rfl, by decide, fun h => absurd h (by decide)⟩) (by decide)).mono ?_
  rintro e w2 ⟨r, rfl, hr, ht⟩
  refine HK9.out _ _ ?_
  clear HK9
  try simp only [Act.put, List.setIfInBounds_toArray, List.set_cons_zero, List.set_cons_succ]
  have hr1 : r = -1 := by
    rcases hr with ⟨h, _⟩ | ⟨i, e, _, h, _⟩
    · exact h
    · cases h
  subst hr1
  have HT := Lib.hid ht
  clear hr ht
  refine wpList_run (v := .int .i64 (-1)) (wanted_none rfl) (gx_assign rfl rfl) ?_
  simp only [Act.put, List.setIfInBounds_toArray, List.set_cons_zero, List.set_cons_succ]
  go_upto_region 2 with fail
  refine wp_region_lit ?_
  refine wpList_run (v := .int .i64 (-1)) (wanted_none rfl) (exec_move rfl rfl) ?_
  simp only [Act.put, List.setIfInBounds_toArray, List.set_cons_zero, List.set_cons_succ]
  refine wpList_run (v := .bool true) (wanted_none rfl) (ix_eql rfl rfl rfl (by decide)) ?_
  simp only [Act.put, List.setIfInBounds_toArray, List.set_cons_zero, List.set_cons_succ]
  go_upto_region 3 with fail
  refine wp_region_lit ?_
  refine wpList_run (v := .slice none 0 0) (wanted_none rfl) (exec_move rfl rfl) ?_
  simp only [Act.put, List.setIfInBounds_toArray, List.set_cons_zero, List.set_cons_succ]
  refine wpList_run (v := .slice none 0 0) (wanted_none rfl) (gx_assign rfl rfl) ?_
  simp only [Act.put, List.setIfInBounds_toArray, List.set_cons_zero, List.set_cons_succ]
  go_wp2_with fail
  go_ret
  exact ⟨rfl, HT.out⟩
theorem fdel_any {w : World} {B : Nat} {v : Value} {fs : List Fld} (h : FRow w B v fs) (hn : fs.length ≤ 5864062014800) : Calls Tryz.prog 34 #[v, isMacV] w fun e w' => ∃ A' c', e = .returned (.slice A' (bareM fs).length c') ∧ FRow w' B (.slice A' (bareM fs).length c') (bareM fs) ∧ Turn (fun b => v.ownBlock = some b) w w' := by
  obtain ⟨_, h5⟩ := id h
  rcases h5 with ⟨e, h0⟩ | ⟨g, cap, cur, e, h6⟩
  · subst e
    obtain rfl : fs = [] := List.eq_nil_of_length_eq_zero h0
    refine (fdel_nil w).mono ?_
    rintro e w' ⟨rfl, ht⟩
    exact ⟨none, 0, rfl, FRow.nil _ _, ht.mono fun _ _ e => e.elim⟩
  · subst e
    refine (fDelete_walk (frow_orw h) rfl hn).mono ?_
    rintro e w' ⟨rfl, ho, ht⟩
    exact ⟨_, _, rfl, orw_frow ho, ht.mono fun k _ e => by rw [show k = g from e]; rfl⟩
set_option maxRecDepth 20000 in
set_option maxHeartbeats 4000000 in
theorem bare_walk {w : World} {ty : Int} {A : Option Addr} {n c : Nat} {fs : List Fld} (hf : Fl w A n fs) (hz : A = none → c = 0) (hn : n ≤ 5864062014800) : Calls Tryz.prog 25 #[msgV ty A n c] w fun e w' => ∃ A' c', e = .returned (msgV ty A' (bareM fs).length c') ∧ FRow w' w.heap.size (.slice A' (bareM fs).length c') (bareM fs) ∧ Turn nowhere w w' := by
  have HF := Lib.hid hf
  have HZ := Lib.hid hz
  have HN := Lib.hid hn
  clear hf hz hn
  go_enter Tryz.func25, Tryz.ntmps25
  go_upto_region 0 with fail
  refine wp_region_lit ?_
  refine wpList_run (v := .pointer (some ⟨(w).heap.size, 0, none⟩)) (w' := (w).alloc (.cells #[.int .i64 ty, .slice A n c] 49)) (wanted_none rfl) (gx_box rfl rfl (box_mg _ _ _ _ _)) ?_
  simp only [Act.put, List.setIfInBounds_toArray, List.set_cons_zero, List.set_cons_succ]
  refine wpList_run (v := .pointer (some ⟨((w).alloc (.cells #[.int .i64 ty, .slice A n c] 49)).heap.size, 0, none⟩)) (w' := ((w).alloc (.cells #[.int .i64 ty, .slice A n c] 49)).alloc (.cells #[.int .i64 0, .slice none 0 0] 49)) (wanted_none rfl) (gx_alloc rfl (zero_mg _)) ?_
  simp only [Act.put, List.setIfInBounds_toArray, List.set_cons_zero, List.set_cons_succ]
  have hb_b := (Blk.new (w) 49 #[.int .i64 ty, .slice A n c]).alloc (.cells #[.int .i64 0, .slice none 0 0] 49)
  have hb_r := Blk.new ((w).alloc (.cells #[.int .i64 ty, .slice A n c] 49)) 49 #[.int .i64 0, .slice none 0 0]
  have ht_ := ((Turn.refl nowhere (w)).alloc (.cells #[.int .i64 ty, .slice A n c] 49)).alloc (.cells #[.int .i64 0, .slice none 0 0] 49)
  obtain ⟨n0_, hn0_⟩ : ∃ n, n = (w).heap.size := ⟨_, rfl⟩
  have hz_b : (w).heap.size = n0_ + 0 := by rw [hn0_]; simp
  have hz_r : ((w).alloc (.cells #[.int .i64 ty, .slice A n c] 49)).heap.size = n0_ + 1 := by rw [hn0_]; simp
  obtain ⟨r, hg_⟩ : ∃ g, g = ((w).alloc (.cells #[.int .i64 ty, .slice A n c] 49)).heap.size := ⟨_, rfl⟩
  rw [← hg_] at hb_r hz_r ⊢
  clear hg_
  obtain ⟨b, hg_⟩ : ∃ g, g = (w).heap.size := ⟨_, rfl⟩
  rw [← hg_] at hb_b hz_b ⊢
  clear hg_
  generalize ((w).alloc (.cells #[.int .i64 ty, .slice A n c] 49)).alloc (.cells #[.int .i64 0, .slice none 0 0] 49) = w1 at *
  have HT1 := Lib.hid ht_
  clear ht_
  have HBb := Lib.hid hb_b
  have HLb := Lib.hid (show (w).heap.size ≤ b from by omega)
  clear hb_b
  have HBr := Lib.hid hb_r
  have HLr := Lib.hid (show (w).heap.size ≤ r from by omega)
  clear hb_r
  have HNbr := Lib.hid (show b ≠ r from by omega)
  clear hn0_ hz_b hz_r
  clear n0_
  go_upto_region 1 with fail
  refine wp_region_lit ?_
  refine wpList_run (v := isMacV) (wanted_none rfl) (gx_assign rfl rfl) ?_
  simp only [Act.put, List.setIfInBounds_toArray, List.set_cons_zero, List.set_cons_succ]
  go_upto_region 2 with fail
  refine wp_region_alw (fun W => Blk W b 49 #[.int .i64 ty, .slice A n c]) (by kernel_rfl) ?_
  have hS0 : (fun W => Blk W b 49 #[.int .i64 ty, .slice A n c]) w1.drew := HBb.out.drew
  have HD := Lib.hid ((Turn.refl nowhere w1).drew)
  generalize w1.drew = wd at *
  have HTd := Lib.hid (HT1.out.trans HD.out fun _ _ e => e)
  have HBrd := Lib.hid (HBr.out.turn HD.out fun e => e)
  have HLr0 := HLr
  clear HT1 HD HBr HBb HLr
  refine alw_take (i := 0) (v := .pointer (some ⟨b, 0, none⟩)) rfl (by kernel_rfl) (by kernel_rfl) (fun _ _ _ h => h) (.inl ⟨by rfl, fun W hW => exec_field (off := 0) (d := 0) rfl rfl (by kernel_rfl)⟩) hS0 ?_
  simp only [Act.put, List.setIfInBounds_toArray, List.set_cons_zero, List.set_cons_succ]
  refine alw_take (i := 1) (v := .int .i64 ty) rfl (by kernel_rfl) (by kernel_rfl) (fun _ _ _ h => h) (.inl ⟨by rfl, fun W hW => exec_load1 rfl rfl (by kernel_rfl) (hW.cell 0)⟩) hS0 ?_
  simp only [Act.put, List.setIfInBounds_toArray, List.set_cons_zero, List.set_cons_succ]
  refine alw_take (i := 2) (v := .pointer (some ⟨b, 1, none⟩)) rfl (by kernel_rfl) (by kernel_rfl) (fun _ _ _ h => h) (.inl ⟨by rfl, fun W hW => exec_field (off := 0) (d := 1) rfl rfl (by kernel_rfl)⟩) hS0 ?_
  simp only [Act.put, List.setIfInBounds_toArray, List.set_cons_zero, List.set_cons_succ]
  refine alw_take (i := 3) (v := .slice A n c) rfl (by kernel_rfl) (by kernel_rfl) (fun _ _ _ h => h) (.inl ⟨by rfl, fun W hW => exec_load1 rfl rfl (by kernel_rfl) (hW.cell 1)⟩) hS0 ?_
  simp only [Act.put, List.setIfInBounds_toArray, List.set_cons_zero, List.set_cons_succ]
  refine alw_take (i := 5) (v := isMacV) rfl (by kernel_rfl) (by kernel_rfl) (fun _ _ _ h => h) (.inl ⟨by rfl, fun W hW => exec_move rfl rfl⟩) hS0 ?_
  simp only [Act.put, List.setIfInBounds_toArray, List.set_cons_zero, List.set_cons_succ]
  refine alw_step (i := 4) (by kernel_rfl) rfl rfl ?_
  intro K1 HK1
  go_wp2_with fail
  refine (fclone_walk (HF.out.still HTd.out) HZ.out HN.out).mono ?_
  rintro e c1 ⟨A5, c5, rfl, ho, ht⟩
  have hS1 : (fun W => Blk W b 49 #[.int .i64 ty, .slice A n c]) c1 := hS0.turn ht fun e => e
  have HO5 := Lib.hid ho
  have HT5 := Lib.hid (HTd.out.trans ht fun _ _ e => e)
  have HBr5 := Lib.hid (HBrd.out.turn ht fun e => e)
  have HLb := Lib.hid hS0.lt
  have HLr := Lib.hid HBrd.out.lt
  have HLw := Lib.hid HTd.out.size
  refine HK1.out _ _ ⟨hS1, ?_⟩
  clear HK1 ht ho hS0 HTd HBrd
  try simp only [Act.put, List.setIfInBounds_toArray, List.set_cons_zero, List.set_cons_succ]
  refine alw_step (i := 6) (by kernel_rfl) rfl rfl ?_
  intro K1 HK1
  go_wp2_with fail
  refine (fdel_any HO5.out (by rw [HF.out.1]; exact HN.out)).mono ?_
  rintro e c2 ⟨A6, c6, rfl, ho, ht⟩
  have hown : ∀ b, (Value.slice A5 n c5).ownBlock = some b → wd.heap.size ≤ b := fun b hb => ((frow_orw HO5.out).lt hb).1
  have hS2 : (fun W => Blk W b 49 #[.int .i64 ty, .slice A n c]) c2 := hS1.turn ht fun e => by have := hown _ e; have := HLb.out; omega
  have HO6 := Lib.hid (ho.less HLw.out)
  have HT6 := Lib.hid (HT5.out.trans ht fun k hk e => by have := hown _ e; have := HLw.out; omega)
  have HBr6 := Lib.hid (HBr5.out.turn ht fun e => by have := hown _ e; have := HLr.out; omega)
  refine HK1.out _ _ ⟨hS2, ?_⟩
  clear HK1 ht ho hS1 HT5 HBr5 HO5 hown
  try simp only [Act.put, List.setIfInBounds_toArray, List.set_cons_zero, List.set_cons_succ]
  refine alw_take (i := 7) (v := .agg #[.int .i64 ty, .slice A6 (bareM fs).length c6]) rfl (by kernel_rfl) (by kernel_rfl) (fun _ _ _ h => h) (.inl ⟨by rfl, fun W hW => gx_build2 rfl rfl rfl (build_msg2 _ _ _ _ _)⟩) hS2 ?_
  simp only [Act.put, List.setIfInBounds_toArray, List.set_cons_zero, List.set_cons_succ]
  have HNbr9 := Lib.hid (show b ≠ r from HNbr.out)
  refine alw_step (i := 8) (by kernel_rfl) rfl rfl ?_
  intro K1 HK1
  refine wp_store_rowU_g 49 (.tmp 2) (.tmp 11) rfl #[.int .i64 ty, .slice A6 (bareM fs).length c6] HBr6.out rfl rfl rfl (by rw [size_mg]; rfl) (mg_one _ _ _ _) ?_
  intro wz hbz htz
  refine HK1.out _ _ ⟨hS2.turn (F := only r) htz (fun e => HNbr9.out e), ?_⟩
  clear HK1
  try simp only [Act.put, List.setIfInBounds_toArray, List.set_cons_zero, List.set_cons_succ]
  have HBZ := Lib.hid hbz
  have HOZ := Lib.hid (HO6.out.turn (F := only r) htz fun k hk e => ((frow_orw HO6.out).ne (g := r) (t := 49) (cs := #[.int .i64 0, .slice none 0 0]) HBr6.out (by decide) k hk) e)
  have HTZ := Lib.hid (HT6.out.trans htz fun k' hk e => by have := HLr0.out; have e : k' = r := e; omega)
  clear hbz htz
  refine alw_done rfl ?_
  refine NoPanic.normal ?_
  go_wp2_with fail
  refine bodyPost_ret (v := .agg #[.int .i64 ty, .slice A6 (bareM fs).length c6]) (ret_cell1_g rfl _ _ r _ _ _ rfl HBZ.out Tryz.underlying49 rfl (by rw [size_mg] <;> rfl)) rfl ?_
  exact ⟨A6, c6, rfl, HOZ.out, HTZ.out⟩
def hexB : Value := strV [48, 49, 50, 51, 52, 53, 54, 55, 56, 57, 97, 98, 99, 100, 101, 102]
theorem dig_get : ∀ i : Fin 16, ([48, 49, 50, 51, 52, 53, 54, 55, 56, 57, 97, 98, 99, 100, 101, 102] : List UInt8).getD i.val 0 = Sh.dig i.val := by decide
theorem hex_next (l : B8) {i : Nat} (h : i < l.length) : Sh.hex (l.take (i + 1)) = Sh.hex (l.take i) ++ [Sh.dig ((l.getD i 0).toNat / 16), Sh.dig ((l.getD i 0).toNat % 16)] := by
  rw [take_nextB l h, Sh.hex, Sh.hex, List.flatMap_append]
  rfl
theorem hex_len (l : B8) : (Sh.hex l).length = 2 * l.length := by
  induction l with
  | nil => rfl
  | cons x l ih => rw [Sh.hex, List.flatMap_cons, List.length_append, ← Sh.hex, ih, List.length_cons]; simp; omega
theorem sidx_dig {a : Act} {o : Oper} {W : World} {x y : Operand} {i : Nat} (ho : o.op = .index 9 x y) (hx : a.eval x = hexB) (hy : a.eval y = .int .u8 (i : Int)) (hi : i < 16) : (execOp a.eval o).run Tryz.prog W = .ok (.value (.int .u8 ((Sh.dig i).toNat : Int))) W := by
  have h := exec_sidx (W := W) ho hx hy (by simpa using hi)
  rw [h, dig_get ⟨i, hi⟩]
theorem b_shr4 {a : Act} {o : Oper} {W : World} {x : Operand} {n : Nat} (ho : o.op = .binOp .shr 5 x (.const (.int .u64 4)) 94) (hx : a.eval x = .int .u8 (n : Int)) (hn : n < 256) : (execOp a.eval o).run Tryz.prog W = .ok (.value (.int .u8 ((n / 16 : Nat) : Int))) W := by
  unfold execOp
  simp only [ho, hx]
  go_simp
theorem b_and15 {a : Act} {o : Oper} {W : World} {x : Operand} {n : Nat} (ho : o.op = .binOp .and 5 x (.const (.int .u8 15)) 5) (hx : a.eval x = .int .u8 (n : Int)) (hn : n < 256) : (execOp a.eval o).run Tryz.prog W = .ok (.value (.int .u8 ((n % 16 : Nat) : Int))) W := by
  unfold execOp
  simp only [ho, hx]
  go_simp
  have h := u8_and_nat n 15 hn (by omega)
  rw [nat_mask4] at h
  exact h
theorem make16 (w : World) : (Instr.makeSlice 42 (.int .i64 0) (.int .i64 16)).run Tryz.prog w = .ok (.slice (some ⟨w.heap.size, 0, none⟩) 0 16) (w.alloc (.cells (byteCells (Sh.zs 16)) 5)) := by kernel_rfl
theorem orw_mk16 (w : World) : Orw (w.alloc (.cells (byteCells (Sh.zs 16)) 5)) w.heap.size 5 1 (.slice (some ⟨w.heap.size, 0, none⟩) 0 16) (rB []) :=
  ⟨Fit.nil 1, World.ownsRow_made w (byteCells (Sh.zs 16)) 16 (Nat.le_refl _) (by unfold maxLen; omega) rfl⟩
theorem build_b2 (x y : UInt8) (W : World) : (Instr.buildSlice 42 2 #[(0, .int .u8 (x.toNat : Int)), (1, .int .u8 (y.toNat : Int))]).run Tryz.prog W = .ok (.slice (some ⟨W.heap.size, 0, none⟩) 2 2) (W.alloc (.cells (byteCells [x, y]) 5)) := by kernel_rfl
theorem bx_slice2 {P : Program} {a : Act} {o : Oper} {t : TypeId} {x y : Operand} {u v q : Value} {W W' : World} (ho : o.op = .buildSlice t 2 #[(0, x), (1, y)]) (hx : a.eval x = u) (hy : a.eval y = v)
    (h : (Instr.buildSlice t 2 #[(0, u), (1, v)]).run P W = .ok q W') : (execOp a.eval o).run P W = .ok (.value q) W' := by
  unfold execOp
  simp only [ho, List.map_toArray, List.map_cons, List.map_nil, hx, hy, h, Sem.run_bind, Sem.run_pure, Result.andThen_ok]
/-- append of two bytes -/
theorem orw_add2 {w W1 : World} {v : Value} {l : B8} {ty : TypeId} (hown : Orw w W1.heap.size 5 1 v (rB l)) (hT : Turn nowhere W1 w) (x y : UInt8) (hlen : l.length + 2 ≤ 140737488355328) :
    ∃ A' c' w', (Builtin.append_ #[42, 42] ty #[v, .slice (some ⟨w.heap.size, 0, none⟩) 2 2]).run Tryz.prog (w.alloc (.cells (byteCells [x, y]) 5)) = .ok (.slice A' (l.length + 2) c') w' ∧ Orw w' W1.heap.size 5 1 (.slice A' (l.length + 2) c') (rB (l ++ [x, y])) ∧ Turn nowhere W1 w' := by
  have hta := (Turn.refl nowhere w).alloc (.cells (byteCells [x, y]) 5)
  obtain ⟨A', c', w', h1, h2, h3⟩ := orw_more elmB (ty := ty) (c := 2) (hown.still hta) (hT.trans hta fun _ _ e => e) (bs_rws (n := 2) (bs_arr (Blk.new w 5 (byteCells [x, y])) rfl (by decide)) (by decide)) (rB_fit [x, y]) (fun h => by cases h) (by rw [rB_len]; omega)
  rw [rB_len] at h1 h2
  rw [← rB_app] at h2
  exact ⟨A', c', w', h1, h2, h3⟩
set_option maxRecDepth 20000 in
set_option maxHeartbeats 4000000 in
theorem hexText_walk {w : World} {A : Option Addr} {c : Nat} {l : B8} (hb : Bs w A 8 l) : Calls Tryz.prog 27 #[.slice A 8 c] w fun e w' => e = .returned (strV (Sh.hex l)) ∧ Turn nowhere w w' := by
  have HN := Lib.hid hb.1
  obtain ⟨b0, o0, rfl, hc⟩ := hb.2.2 (by decide)
  have HC := Lib.hid hc
  clear hb hc
  go_enter Tryz.func27, Tryz.ntmps27
  go_upto_region 0 with fail
  refine wp_region_lit ?_
  refine wpList_run (v := strV []) (wanted_none rfl) (gx_assign rfl rfl) ?_
  simp only [Act.put, List.setIfInBounds_toArray, List.set_cons_zero, List.set_cons_succ]
  have HO0 := Lib.hid (orw_mk16 w)
  have HT0 := Lib.hid ((Turn.refl nowhere w).alloc (.cells (byteCells (Sh.zs 16)) 5))
  have HMK := Lib.hid (make16 w)
  generalize hw1 : w.alloc (.cells (byteCells (Sh.zs 16)) 5) = w1 at HO0 HT0 HMK
  clear hw1
  go_upto_region 1 with fail
  refine wp_region_lit ?_
  refine wpList_run (v := .slice (some ⟨b0, o0, none⟩) 8 c) (wanted_none rfl) (exec_move rfl rfl) ?_
  simp only [Act.put, List.setIfInBounds_toArray, List.set_cons_zero, List.set_cons_succ]
  refine wpList_run (v := .int .i64 8) (wanted_none rfl) (gx_len rfl rfl Tryz.underlying42) ?_
  simp only [Act.put, List.setIfInBounds_toArray, List.set_cons_zero, List.set_cons_succ]
  refine wpList_run (v := .int .i64 16) (wanted_none rfl) (ix_mul rfl rfl rfl rfl (by decide)) ?_
  simp only [Act.put, List.setIfInBounds_toArray, List.set_cons_zero, List.set_cons_succ]
  refine wpList_run (v := .slice (some ⟨w.heap.size, 0, none⟩) 0 16) (w' := w1) (wanted_none rfl) (exec_makeV rfl rfl rfl HMK.out) ?_
  simp only [Act.put, List.setIfInBounds_toArray, List.set_cons_zero, List.set_cons_succ]
  refine wpList_run (v := .slice (some ⟨w.heap.size, 0, none⟩) 0 16) (wanted_none rfl) (gx_assign rfl rfl) ?_
  simp only [Act.put, List.setIfInBounds_toArray, List.set_cons_zero, List.set_cons_succ]
  go_upto_region 2 with fail
  refine wp_region_lit ?_
  refine wpList_run (v := .slice (some ⟨b0, o0, none⟩) 8 c) (wanted_none rfl) (exec_move rfl rfl) ?_
  simp only [Act.put, List.setIfInBounds_toArray, List.set_cons_zero, List.set_cons_succ]
  refine wpList_run (v := .int .i64 8) (wanted_none rfl) (gx_len rfl rfl Tryz.underlying42) ?_
  simp only [Act.put, List.setIfInBounds_toArray, List.set_cons_zero, List.set_cons_succ]
  refine wpList_run (v := .int .i64 0) (wanted_none rfl) (exec_move rfl rfl) ?_
  simp only [Act.put, List.setIfInBounds_toArray, List.set_cons_zero, List.set_cons_succ]
  go_wp2_with fail
  go_loopg [3, 12] 8 (fun gk v iv wr => ∃ i : Nat, iv = .int .i64 (i : Int) ∧ i + gk = 8 ∧ Orw wr w.heap.size 5 1 v (rB (Sh.hex (l.take i))) ∧ Turn nowhere w wr)
  case atStart => exact ⟨0, rfl, rfl, HO0.out, HT0.out⟩
  clear HO0 HT0 HMK
  obtain ⟨i, rfl, hgk, hor, htr⟩ := hrel
  have yi : (i : Int) ≤ 8 := by omega
  have HGK := Lib.hid hgk
  have HOR := Lib.hid hor
  have HTR := Lib.hid htr
  have HTL := Lib.hid (show (Sh.hex (l.take i)).length = 2 * i from by rw [hex_len, List.length_take, HN.out]; omega)
  obtain ⟨A5, c5, rfl, _⟩ := hor.form
  clear hgk hor htr
  rw [rB_len, HTL.out] at HOR ⊢
  by_cases hlt : i < 8
  · as_aux_lemma =>
      have HLT := Lib.hid hlt
      have y3 : (i : Int) < 8 := by omega
      have HNX := Lib.hid (hex_next l (i := i) (by rw [HN.out]; exact hlt))
      have HCI := Lib.hid (HC.out i hlt)
      obtain ⟨x, hx⟩ : ∃ x, l.getD i 0 = x := ⟨_, rfl⟩
      rw [hx] at HNX HCI
      have HX := Lib.hid x.toNat_lt
      have HCR := Lib.hid (show wr.cell? ⟨b0, o0 + i, none⟩ = some (.int .u8 (x.toNat : Int)) from cell_still HCI.out HTR.out)
      clear hlt hx
      obtain ⟨d1, hd1⟩ : ∃ d, Sh.dig (x.toNat / 16) = d := ⟨_, rfl⟩
      obtain ⟨d2, hd2⟩ : ∃ d, Sh.dig (x.toNat % 16) = d := ⟨_, rfl⟩
      rw [hd1, hd2] at HNX
      have HD1 := Lib.hid hd1
      have HD2 := Lib.hid hd2
      clear hd1 hd2
      go_upto_region 3 with fail
      refine wp_region_lit ?_
      refine wpList_run (v := .bool true) (wanted_none rfl) (ix_lss rfl rfl rfl (decide_eq_true y3)) ?_
      simp only [Act.put, List.setIfInBounds_toArray, List.set_cons_zero, List.set_cons_succ]
      go_upto_region 4 with fail
      refine wp_region_lit ?_
      refine wpList_run (v := .pointer (some ⟨b0, o0 + i * 1, none⟩)) (wanted_none rfl) (gx_iaddr (i := i) (sz := 1) rfl rfl rfl Tryz.underlying42 size_u8 HLT.out rfl) ?_
      simp only [Act.put, List.setIfInBounds_toArray, List.set_cons_zero, List.set_cons_succ]
      refine wpList_run (v := .int .u8 (x.toNat : Int)) (wanted_none rfl) (exec_load1 rfl rfl (by kernel_rfl) (by rw [Nat.mul_one]; exact HCR.out)) ?_
      simp only [Act.put, List.setIfInBounds_toArray, List.set_cons_zero, List.set_cons_succ]
      refine wpList_run (v := .int .u8 (x.toNat : Int)) (wanted_none rfl) (gx_assign rfl rfl) ?_
      simp only [Act.put, List.setIfInBounds_toArray, List.set_cons_zero, List.set_cons_succ]
      go_upto_region 5 with fail
      refine wp_region_alw (fun W => True) (by kernel_rfl) ?_
      have hS0 : (fun W => True) wr.drew := trivial
      have HD := Lib.hid ((Turn.refl nowhere wr).drew)
      generalize wr.drew = wd at *
      have HTd := Lib.hid (HTR.out.trans HD.out fun _ _ e => e)
      refine alw_take (i := 0) (v := .slice A5 (2 * i) c5) rfl (by kernel_rfl) (by kernel_rfl) (fun _ _ _ h => h) (.inl ⟨by rfl, fun W hW => exec_move rfl rfl⟩) hS0 ?_
      simp only [Act.put, List.setIfInBounds_toArray, List.set_cons_zero, List.set_cons_succ]
      refine alw_take (i := 1) (v := .int .u8 (x.toNat : Int)) rfl (by kernel_rfl) (by kernel_rfl) (fun _ _ _ h => h) (.inl ⟨by rfl, fun W hW => exec_move rfl rfl⟩) hS0 ?_
      simp only [Act.put, List.setIfInBounds_toArray, List.set_cons_zero, List.set_cons_succ]
      refine alw_take (i := 2) (v := .int .u8 ((x.toNat / 16 : Nat) : Int)) rfl (by kernel_rfl) (by kernel_rfl) (fun _ _ _ h => h) (.inl ⟨by rfl, fun W hW => b_shr4 rfl rfl HX.out⟩) hS0 ?_
      simp only [Act.put, List.setIfInBounds_toArray, List.set_cons_zero, List.set_cons_succ]
      refine alw_take (i := 3) (v := .int .u8 (d1.toNat : Int)) rfl (by kernel_rfl) (by kernel_rfl) (fun _ _ _ h => h) (.inl ⟨by rfl, fun W hW => (by rw [← HD1.out]; exact sidx_dig rfl rfl rfl (by have := HX.out; omega))⟩) hS0 ?_
      simp only [Act.put, List.setIfInBounds_toArray, List.set_cons_zero, List.set_cons_succ]
      refine alw_take (i := 4) (v := .int .u8 (x.toNat : Int)) rfl (by kernel_rfl) (by kernel_rfl) (fun _ _ _ h => h) (.inl ⟨by rfl, fun W hW => exec_move rfl rfl⟩) hS0 ?_
      simp only [Act.put, List.setIfInBounds_toArray, List.set_cons_zero, List.set_cons_succ]
      refine alw_take (i := 5) (v := .int .u8 ((x.toNat % 16 : Nat) : Int)) rfl (by kernel_rfl) (by kernel_rfl) (fun _ _ _ h => h) (.inl ⟨by rfl, fun W hW => b_and15 rfl rfl HX.out⟩) hS0 ?_
      simp only [Act.put, List.setIfInBounds_toArray, List.set_cons_zero, List.set_cons_succ]
      refine alw_take (i := 6) (v := .int .u8 (d2.toNat : Int)) rfl (by kernel_rfl) (by kernel_rfl) (fun _ _ _ h => h) (.inl ⟨by rfl, fun W hW => (by rw [← HD2.out]; exact sidx_dig rfl rfl rfl (by omega))⟩) hS0 ?_
      simp only [Act.put, List.setIfInBounds_toArray, List.set_cons_zero, List.set_cons_succ]
      obtain ⟨A6, c6, w7, hap, ho7, ht7⟩ := orw_add2 (ty := 42) (W1 := w) (HOR.out.still HD.out) HTd.out d1 d2 (by rw [HTL.out]; have := HLT.out; omega)
      rw [HTL.out] at hap ho7
      rw [← HNX.out] at ho7
      have HAP := Lib.hid hap
      have HO7 := Lib.hid ho7
      have HT7 := Lib.hid ht7
      clear hap ho7 ht7
      refine alw_step (i := 7) (by kernel_rfl) rfl rfl ?_
      intro K1 HK1
      refine wp_run (v := .slice (some ⟨wd.heap.size, 0, none⟩) 2 2) (w' := wd.alloc (.cells (byteCells [d1, d2]) 5)) (bx_slice2 rfl rfl rfl (build_b2 d1 d2 wd)) ?_
      refine HK1.out _ _ ⟨trivial, ?_⟩
      clear HK1
      try simp only [Act.put, List.setIfInBounds_toArray, List.set_cons_zero, List.set_cons_succ]
      refine alw_step (i := 8) (by kernel_rfl) rfl rfl ?_
      intro K1 HK1
      refine wp_run (v := .slice A6 (2 * i + 2) c6) (w' := w7) (exec_append rfl rfl rfl HAP.out) ?_
      refine HK1.out _ _ ⟨trivial, ?_⟩
      clear HK1
      try simp only [Act.put, List.setIfInBounds_toArray, List.set_cons_zero, List.set_cons_succ]
      refine alw_take (i := 9) (v := .slice A6 (2 * i + 2) c6) rfl (by kernel_rfl) (by kernel_rfl) (fun _ _ _ h => h) (.inl ⟨by rfl, fun W hW => gx_assign rfl rfl⟩) trivial ?_
      simp only [Act.put, List.setIfInBounds_toArray, List.set_cons_zero, List.set_cons_succ]
      refine alw_done rfl ?_
      refine NoPanic.normal ?_
      try simp only [Act.put, List.setIfInBounds_toArray, List.set_cons_zero, List.set_cons_succ]
      go_upto_region 6 with fail
      refine wp_region_lit ?_
      refine wpList_run (v := .int .i64 ((i + 1 : Nat) : Int)) (wanted_none rfl) (ix_add rfl rfl rfl (by omega) (by omega)) ?_
      simp only [Act.put, List.setIfInBounds_toArray, List.set_cons_zero, List.set_cons_succ]
      refine wpList_run (v := .int .i64 ((i + 1 : Nat) : Int)) (wanted_none rfl) (exec_move rfl rfl) ?_
      simp only [Act.put, List.setIfInBounds_toArray, List.set_cons_zero, List.set_cons_succ]
      go_wp2_with fail
      go_roundg (8 - (i + 1))
      case measure => have := HGK.out; have := HLT.out; omega
      case rel => exact ⟨i + 1, rfl, by have := HLT.out; omega, HO7.out, HT7.out⟩
  · as_aux_lemma =>
      obtain rfl : i = 8 := by omega
      clear hlt HGK
      rw [List.take_of_length_le (by rw [HN.out]; omega)] at HOR HTL
      obtain ⟨A8, c8, he8, hb8, hc8, hz8⟩ := orw_bs HOR.out
      rw [HTL.out] at he8 hb8
      injection he8 with e1 e2 e3
      subst e1
      have HB8 := Lib.hid hb8
      clear hb8 hc8 hz8 e2 e3
      go_upto_region 3 with fail
      refine wp_region_lit ?_
      refine wpList_run (v := .bool false) (wanted_none rfl) (ix_lss rfl rfl rfl (by decide)) ?_
      simp only [Act.put, List.setIfInBounds_toArray, List.set_cons_zero, List.set_cons_succ]
      go_upto_region 7 with fail
      refine wp_region_lit ?_
      refine wpList_run (v := .slice A5 (2 * 8) c5) (wanted_none rfl) (exec_move rfl rfl) ?_
      simp only [Act.put, List.setIfInBounds_toArray, List.set_cons_zero, List.set_cons_succ]
      refine wpList_run (v := strV (Sh.hex l)) (wanted_none rfl) (exec_strBs rfl rfl HB8.out) ?_
      simp only [Act.put, List.setIfInBounds_toArray, List.set_cons_zero, List.set_cons_succ]
      refine wpList_run (v := strV (Sh.hex l)) (wanted_none rfl) (gx_assign rfl rfl) ?_
      simp only [Act.put, List.setIfInBounds_toArray, List.set_cons_zero, List.set_cons_succ]
      go_wp2_with fail
      go_ret
      exact ⟨rfl, HTR.out⟩
end Go.Proofs.YtfnillibngijaaaGreatDoor
namespace Go.Proofs.YtfnillibngijaaaGreatDoor
open Go.RowKit
open Fdd
set_option linter.unusedVariables false
set_option linter.unusedSimpArgs false
def gotV (o : Option (List UInt8)) : Value := match o with
  | some t => .tuple #[strV t, .bool true]
  | none => .tuple #[strV [], .bool false]
theorem get_at {fs : List Fld} {no : Int} {j : Nat} {f : Fld} (hf : fs[j]? = some f) : getM no (fs.drop j) = if f.1 = no then some f.2 else getM no (fs.drop (j + 1)) := by
  obtain ⟨hj, e⟩ := List.getElem?_eq_some_iff.1 hf
  rw [List.drop_eq_getElem_cons hj, e]
  rfl
set_option maxRecDepth 20000 in
set_option maxHeartbeats 1000000 in
theorem Get_walk {w : World} {ty no : Int} {A : Option Addr} {n c : Nat} {fs : List Fld} (hf : Fl w A n fs) :
    Calls Tryz.prog 23 #[msgV ty A n c, .int .i64 no] w fun e w' => e = .returned (gotV (getM no fs)) ∧ Turn nowhere w w' := by
  have HF := Lib.hid hf
  have HNL := Lib.hid hf.1
  have y9 : (n : Int) ≤ 140737488355328 := by
    have := hf.2.1
    omega
  clear hf
  unfold msgV
  go_enter Tryz.func23, Tryz.ntmps23
  go_upto_region 1 with fail
  have hb0 := Blk.new w 49 #[.int .i64 ty, .slice A n c]
  have hu0 := (Turn.refl nowhere w).alloc (.cells #[.int .i64 ty, .slice A n c] 49)
  obtain ⟨gm, hg0⟩ : ∃ g, g = w.heap.size := ⟨_, rfl⟩
  rw [← hg0] at hb0 ⊢
  clear hg0
  generalize w.alloc (.cells #[.int .i64 ty, .slice A n c] 49) = w1 at *
  have HBgm := Lib.hid hb0
  have HT0 := Lib.hid hu0
  clear hb0 hu0
  refine wp_region_lit ?_
  refine wpList_run (v := .pointer (some ⟨gm, 1, none⟩)) rfl (exec_field (off := 0) (d := 1) rfl rfl (by kernel_rfl)) ?_
  simp only [Act.put, List.setIfInBounds_toArray, List.set_cons_zero, List.set_cons_succ]
  refine wpList_run (v := .slice A n c) rfl (exec_load1 rfl rfl (by kernel_rfl) (HBgm.out.cell 1)) ?_
  simp only [Act.put, List.setIfInBounds_toArray, List.set_cons_zero, List.set_cons_succ]
  refine wpList_run (v := .int .i64 (n : Int)) rfl (gx_len rfl rfl Tryz.underlying47) ?_
  simp only [Act.put, List.setIfInBounds_toArray, List.set_cons_zero, List.set_cons_succ]
  refine wpList_run (v := .int .i64 0) rfl (exec_move rfl rfl) ?_
  simp only [Act.put, List.setIfInBounds_toArray, List.set_cons_zero, List.set_cons_succ]
  go_wp2_with fail
  go_loopg [11] n (fun gk jv wr => ∃ j : Nat, j + gk = n ∧ jv = .int .i64 (j : Int) ∧ Turn nowhere w1 wr ∧ getM no (fs.drop j) = getM no fs)
  case atStart => exact ⟨0, by omega, rfl, Turn.refl _ _, rfl⟩
  obtain ⟨j, hjl, rfl, htr, hgm⟩ := hrel
  have HJL := Lib.hid hjl
  have HTR := Lib.hid htr
  have HGM := Lib.hid hgm
  clear hjl htr hgm
  go_upto_region 2 with fail
  refine wp_region_lit ?_
  by_cases hlt : j < n
  · have HLT := Lib.hid hlt
    have y1 : (j : Int) < (n : Int) := by omega
    obtain ⟨bF, oF, rfl, hr⟩ := HF.out.2.2 (by omega)
    obtain ⟨f, hf⟩ : ∃ f, fs[j]? = some f := ⟨_, List.getElem?_eq_getElem (show j < fs.length from by rw [HNL.out]; exact hlt)⟩
    have HRR := Lib.hid (show wr.rangeAt bF (oF + j * 2) (fldA f).toList from fun i v hv => ((HT0.out.trans HTR.out (fun _ _ e => e)).cell (World.block_lt_of_cell? _ _ (hr j f hf i v hv)) (fun e => e)).trans (hr j f hf i v hv))
    have HGA := Lib.hid (get_at (no := no) hf)
    clear hr hf hlt
    refine wpList_run (v := .bool true) rfl (ix_lss rfl rfl rfl (decide_eq_true y1)) ?_
    simp only [Act.put, List.setIfInBounds_toArray, List.set_cons_zero, List.set_cons_succ]
    go_upto_region 3 with fail
    refine wp_region_lit ?_
    refine wpList_run (v := .pointer (some ⟨bF, oF + j * 2, none⟩)) rfl (gx_iaddr (i := j) (sz := 2) rfl rfl rfl Tryz.underlying47 size_field HLT.out (by omega)) ?_
    simp only [Act.put, List.setIfInBounds_toArray, List.set_cons_zero, List.set_cons_succ]
    refine wpList_run (v := .agg (fldA f)) rfl (gx_loads rfl rfl HRR.out Tryz.underlying53 rfl (by rw [size_field]; rfl)) ?_
    simp only [Act.put, List.setIfInBounds_toArray, List.set_cons_zero, List.set_cons_succ]
    refine wpList_new 53 (.tmp 7) (.tmp 14) (fldA f) rfl rfl (zero_field _) rfl rfl rfl rfl rfl rfl (by rw [size_field]; rfl) (fldA_one f) ?_
    intro w3 g7 _ hbx hux
    simp only [Act.put, List.setIfInBounds_toArray, List.set_cons_zero, List.set_cons_succ]
    have HB7 := Lib.hid hbx
    have HT7 := Lib.hid hux
    clear hbx hux HRR
    go_upto_region 4 with fail
    refine wp_region_lit ?_
    refine wpList_run (v := .pointer (some ⟨g7, 0, none⟩)) rfl (exec_field (off := 0) (d := 0) rfl rfl (by kernel_rfl)) ?_
    simp only [Act.put, List.setIfInBounds_toArray, List.set_cons_zero, List.set_cons_succ]
    refine wpList_run (v := .int .i64 f.1) rfl (exec_load1 rfl rfl (by kernel_rfl) (HB7.out.cell 0)) ?_
    simp only [Act.put, List.setIfInBounds_toArray, List.set_cons_zero, List.set_cons_succ]
    refine wpList_run (v := .int .i64 no) rfl (exec_move rfl rfl) ?_
    simp only [Act.put, List.setIfInBounds_toArray, List.set_cons_zero, List.set_cons_succ]
    by_cases heq : f.1 = no
    · refine wpList_run (v := .bool true) rfl (ix_eql rfl rfl rfl (decide_eq_true heq)) ?_
      simp only [Act.put, List.setIfInBounds_toArray, List.set_cons_zero, List.set_cons_succ]
      go_upto_region 5 with fail
      refine wp_region_lit ?_
      refine wpList_run (v := .pointer (some ⟨g7, 1, none⟩)) rfl (exec_field (off := 0) (d := 1) rfl rfl (by kernel_rfl)) ?_
      simp only [Act.put, List.setIfInBounds_toArray, List.set_cons_zero, List.set_cons_succ]
      refine wpList_run (v := strV f.2) rfl (exec_load1 rfl rfl (by kernel_rfl) (HB7.out.cell 1)) ?_
      simp only [Act.put, List.setIfInBounds_toArray, List.set_cons_zero, List.set_cons_succ]
      refine wpList_run (v := strV f.2) rfl (gx_assign rfl rfl) ?_
      simp only [Act.put, List.setIfInBounds_toArray, List.set_cons_zero, List.set_cons_succ]
      refine wpList_run (v := .bool true) rfl (gx_assign rfl rfl) ?_
      simp only [Act.put, List.setIfInBounds_toArray, List.set_cons_zero, List.set_cons_succ]
      have HG2 := Lib.hid (show getM no fs = some f.2 from by rw [← HGM.out, HGA.out, if_pos heq])
      clear heq
      go_wp2_with fail
      go_ret2
      rw [HG2.out]
      exact ⟨rfl, (HT0.out.trans HTR.out (fun _ _ e => e)).trans HT7.out (fun _ _ e => e)⟩
    · refine wpList_run (v := .bool false) rfl (ix_eql rfl rfl rfl (decide_eq_false heq)) ?_
      simp only [Act.put, List.setIfInBounds_toArray, List.set_cons_zero, List.set_cons_succ]
      have HG2 := Lib.hid (show getM no (fs.drop (j + 1)) = getM no fs from by rw [← HGM.out, HGA.out, if_neg heq])
      clear heq
      go_wp2_with fail
      go_roundg (gk - 1)
      case measure => have := HJL.out; have := HLT.out; omega
      case rel => exact ⟨j + 1, by have := HJL.out; have := HLT.out; omega, by go_num, HTR.out.trans HT7.out (fun _ _ e => e), HG2.out⟩
  · refine wpList_run (v := .bool false) rfl (ix_lss rfl rfl rfl (decide_eq_false (by omega))) ?_
    simp only [Act.put, List.setIfInBounds_toArray, List.set_cons_zero, List.set_cons_succ]
    have HGN := Lib.hid (show getM no fs = none from by
      rw [← HGM.out, List.drop_eq_nil_of_le (by rw [HNL.out]; omega)]
      rfl)
    clear hlt
    go_wp2_with fail
    go_ret2
    rw [HGN.out]
    exact ⟨rfl, HT0.out.trans HTR.out (fun _ _ e => e)⟩
end Go.Proofs.YtfnillibngijaaaGreatDoor
