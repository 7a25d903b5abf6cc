/-
  The reference's bytes of a number with its length ahead, of a marked number, of great digits; Put. No conditions.
-/
import Derived.Test.YtgdlidjjogoiaaaGreatDoorFdPe
namespace Go.Proofs.YtgdlidjjogoiaaaGreatDoor
open Go.RowKit
open Fdd
set_option linter.unusedVariables false
set_option linter.unusedSimpArgs false
def FoS (b2 : Nat) (x y z : Int) (W : World) : Prop := Blk W b2 24 #[.int .i64 x, .int .i64 y, .int .i64 z]
theorem FoS.turn {b2 : Nat} {x y z : Int} {W W' : World} (h : FoS b2 x y z W) (ht : Turn nowhere W W') : FoS b2 x y z W' := Blk.turn (F := nowhere) h ht fun e => e
theorem rdigits_len (code : Int) (t : List UInt8) : (rdigits code t).length ≤ t.length + 1 := by
  unfold rdigits
  split
  · have h1 := rpack_len (padded t)
    have h2 := (padded_two t).2
    unfold padded at h1 ⊢
    split at h1
    · rename_i h
      rw [if_pos h]
      simpa using h1
    · rename_i h
      rw [if_neg h]
      omega
  · unfold rsigns
    split
    · simp
    · omega
theorem rsigns_len (code : Int) (t : List UInt8) : (rsigns code t).length = t.length := by
  unfold rsigns
  split
  · simp
  · rfl
theorem exec_sto1 {W : World} {a : Act} {o : Oper} {x : Operand} {l : List UInt8} (ho : o.op = .slice 9 x none (some (.const (.int .i64 1))) none) (hx : a.eval x = strV l) (hn : 1 ≤ l.length) : (execOp a.eval o).run Tryz.prog W = .ok (.value (strV (l.take 1))) W :=
  exec_sto (n := 1) ho hx rfl hn
theorem exec_sfrom1 {W : World} {a : Act} {o : Oper} {x : Operand} {l : List UInt8} (ho : o.op = .slice 9 x (some (.const (.int .i64 1))) none none) (hx : a.eval x = strV l) (hn : 1 ≤ l.length) : (execOp a.eval o).run Tryz.prog W = .ok (.value (strV (l.drop 1))) W :=
  exec_sfrom (n := 1) ho hx rfl hn
set_option maxHeartbeats 2000000 in
set_option maxRecDepth 20000 in
theorem bytes2_walk (s : Nat) (code : Int) (t : List UInt8) (w : World) (hl : t.length ≤ 99) (ht : onlyOf t dec = true) :
    Calls Tryz.prog 19 #[fmV ⟨2, (s : Int), code⟩, strV t] w (Made w (rdigits code (two t.length) ++ rdigits code t)) := by
  have HC0 := Lib.hid (fun W => two_walk t.length W hl)
  have HC1 := Lib.hid (fun W => rdig_walk code (two t.length) W (by rw [two_len]; omega) (two_ok hl).2)
  have HC2 := Lib.hid (fun W => rdig_walk code t W (by omega) ht)
  have h1 := rdigits_len code (two t.length)
  have h2 := rdigits_len code t
  rw [two_len] at h1
  have HLS := Lib.hid (show (rdigits code (two t.length)).length + (rdigits code t).length ≤ 1000 by omega)
  clear hl ht h1 h2
  generalize rdigits code (two t.length) = l1 at *
  generalize rdigits code t = l2 at *
  unfold fmV
  obtain ⟨b2, hb2⟩ : ∃ b2, b2 = w.heap.size := ⟨_, rfl⟩
  have HB2 := Lib.hid hb2
  go_enter Tryz.func19, Tryz.ntmps19
  go_upto_region 1 with fail
  have hb0 := Blk.new w 24 #[.int .i64 2, .int .i64 (s : Int), .int .i64 code]
  have ht0 := (Turn.refl nowhere w).alloc (.cells #[.int .i64 2, .int .i64 (s : Int), .int .i64 code] 24)
  generalize (w.alloc (.cells #[.int .i64 2, .int .i64 (s : Int), .int .i64 code] 24)) = w1 at *
  rw [← hb2] at hb0 ⊢
  have HBK := Lib.hid hb0
  have HT0 := Lib.hid ht0
  have c0 : w1.cell? ⟨b2, 0, none⟩ = some (.int .i64 2) := hb0.cell 0
  have c2 : w1.cell? ⟨b2, 2, none⟩ = some (.int .i64 code) := hb0.cell 2
  clear hb0 ht0 hb2
  go_upto_region 5 with fail
  have hS0 : FoS b2 2 (s : Int) code w1.drew := HBK.out
  refine wp_region_till (FoS b2 2 (s : Int) code) 11 (by kernel_rfl) ?_
  refine till_pure (i := 0) (v := .pointer (some ⟨b2, 2, none⟩)) rfl (by kernel_rfl) (by kernel_rfl) (fun _ _ _ h => h) (.inl ⟨by rfl, fun W hW => exec_field (off := 0) (d := 2) rfl rfl (by kernel_rfl)⟩) hS0 ?_
  simp only [Act.put, List.setIfInBounds_toArray, List.set_cons_zero, List.set_cons_succ]
  refine till_take (i := 1) (v := .int .i64 code) rfl (by kernel_rfl) (by kernel_rfl) (fun _ _ _ h => h) (.inl ⟨by rfl, fun W hW => exec_load1 rfl rfl (by kernel_rfl) (hW.cell 2)⟩) hS0 ?_
  simp only [Act.put, List.setIfInBounds_toArray, List.set_cons_zero, List.set_cons_succ]
  refine till_pure (i := 2) (v := strV t) rfl (by kernel_rfl) (by kernel_rfl) (fun _ _ _ h => h) (.inl ⟨by rfl, fun W hW => exec_move rfl rfl⟩) hS0 ?_
  simp only [Act.put, List.setIfInBounds_toArray, List.set_cons_zero, List.set_cons_succ]
  refine till_pure (i := 3) (v := .int .i64 (t.length : Int)) rfl (by kernel_rfl) (by kernel_rfl) (fun _ _ _ h => h) (.inl ⟨by rfl, fun W hW => exec_slen rfl rfl⟩) hS0 ?_
  simp only [Act.put, List.setIfInBounds_toArray, List.set_cons_zero, List.set_cons_succ]
  refine till_pure (i := 6) (v := .pointer (some ⟨b2, 2, none⟩)) rfl (by kernel_rfl) (by kernel_rfl) (fun _ _ _ h => h) (.inl ⟨by rfl, fun W hW => exec_field (off := 0) (d := 2) rfl rfl (by kernel_rfl)⟩) hS0 ?_
  simp only [Act.put, List.setIfInBounds_toArray, List.set_cons_zero, List.set_cons_succ]
  refine till_take (i := 7) (v := .int .i64 code) rfl (by kernel_rfl) (by kernel_rfl) (fun _ _ _ h => h) (.inl ⟨by rfl, fun W hW => exec_load1 rfl rfl (by kernel_rfl) (hW.cell 2)⟩) hS0 ?_
  simp only [Act.put, List.setIfInBounds_toArray, List.set_cons_zero, List.set_cons_succ]
  refine till_pure (i := 8) (v := strV t) rfl (by kernel_rfl) (by kernel_rfl) (fun _ _ _ h => h) (.inl ⟨by rfl, fun W hW => exec_move rfl rfl⟩) hS0 ?_
  simp only [Act.put, List.setIfInBounds_toArray, List.set_cons_zero, List.set_cons_succ]
  refine till_step (i := 4) (by kernel_rfl) rfl rfl ?_
  intro K1 HK1
  go_wp2_with fail
  refine (HC0.out w1.drew).mono ?_
  rintro e w2 ⟨rfl, ht2⟩
  have hS2 : FoS b2 2 (s : Int) code w2 := hS0.turn ht2
  refine HK1.out _ _ ⟨fun _ => hS2, ?_⟩
  clear HK1
  refine till_step (i := 5) (by kernel_rfl) rfl rfl ?_
  intro K1 HK1
  go_wp2_with fail
  refine (HC1.out w2).mono ?_
  rintro e w3 ⟨A1, n1, c1, rfl, ho1, ht3⟩
  have hS3 : FoS b2 2 (s : Int) code w3 := hS2.turn ht3
  refine HK1.out _ _ ⟨fun _ => hS3, ?_⟩
  clear HK1
  refine till_step (i := 9) (by kernel_rfl) rfl rfl ?_
  intro K1 HK1
  go_wp2_with fail
  refine (HC2.out w3).mono ?_
  rintro e w4 ⟨A2, n2, c2, rfl, ho2, ht4⟩
  have hS4 : FoS b2 2 (s : Int) code w4 := hS3.turn ht4
  refine HK1.out _ _ ⟨fun _ => hS4, ?_⟩
  clear HK1
  refine till_step (i := 10) (by kernel_rfl) rfl rfl ?_
  intro K1 HK1
  have ho1' : Own w4 w1.heap.size 5 (.slice A1 n1 c1) l1 := own_lower (Own.below ho1 (ht4.below (Nat.le_refl _) (fun _ _ e => e)) (Nat.le_refl _)) ht2.size
  obtain ⟨hb2, hn2, hz2⟩ := own_bs ho2
  have hle : w1.heap.size ≤ w4.heap.size := Nat.le_trans ht2.size (Nat.le_trans ht3.size ht4.size)
  refine wp_append_bytes w4 _ _ _ rfl w1.heap.size 5 byteInfo Tryz.underlying22 _ _ rfl ho1' _ n2 c2 l2 rfl hb2 hz2 (by have := hb2.1; have := HLS.out; omega) hle ?_
  intro v5 w5 ho5 hb5
  have hbl : b2 < w1.heap.size := Blk.lt (w := w1) HBK.out
  have hS5 : FoS b2 2 (s : Int) code w5 := (hb5.block b2 hbl).trans hS4
  refine HK1.out _ _ ⟨fun _ => hS5, ?_⟩
  clear HK1
  simp only [Act.put, List.setIfInBounds_toArray, List.set_cons_zero, List.set_cons_succ]
  obtain ⟨A5, n5, c5, rfl, _⟩ := ho5.form
  have HO5 := Lib.hid (own_lower ho5 HT0.out.size)
  have HT5 := Lib.hid (turn_below (((HT0.out.drew.trans ht2 fun _ _ e => e).trans ht3 fun _ _ e => e).trans ht4 fun _ _ e => e) (hb5.mono HT0.out.size))
  clear hS0 hS2 hS3 hS4 hS5 ho1 ho2 ho1' ho5 hb5 hb2 hn2 hz2 hle ht2 ht3 ht4 hbl
  refine till_tail 11 rfl (by kernel_rfl) ?_
  go_wp2_with fail
  refine NoPanic.normal ?_
  go_wp2_with fail
  go_ret
  exact ⟨A5, n5, c5, rfl, HO5.out, HT5.out⟩
set_option maxHeartbeats 2000000 in
set_option maxRecDepth 20000 in
theorem bytes5_walk (s : Nat) (code : Int) (t : List UInt8) (w : World) (hl : t.length ≤ 99) (h1 : 1 ≤ t.length) (ht : onlyOf (t.drop 1) dec = true) :
    Calls Tryz.prog 19 #[fmV ⟨5, (s : Int), code⟩, strV t] w (Made w (rsigns code (t.take 1) ++ rdigits code (t.drop 1))) := by
  have HT1 := Lib.hid h1
  obtain ⟨m, hm⟩ : ∃ m, m = t.take 1 := ⟨_, rfl⟩
  obtain ⟨d, hd⟩ : ∃ d, d = t.drop 1 := ⟨_, rfl⟩
  have hml : m.length ≤ 1 := by rw [hm, List.length_take]; omega
  have hdl : d.length ≤ 99 := by rw [hd, List.length_drop]; omega
  rw [← hm, ← hd]
  rw [← hd] at ht
  have HM := Lib.hid hm
  have HD := Lib.hid hd
  have HC1 := Lib.hid (fun W => signs_walk code m W (by omega))
  have HC2 := Lib.hid (fun W => rdig_walk code d W (by omega) ht)
  have h2 := rdigits_len code d
  have h3 := rsigns_len code m
  have HLS := Lib.hid (show (rsigns code m).length + (rdigits code d).length ≤ 1000 by omega)
  clear hl ht h1 h2 h3 hm hd hml hdl
  generalize rsigns code m = l1 at *
  generalize rdigits code d = l2 at *
  unfold fmV
  obtain ⟨b2, hb2⟩ : ∃ b2, b2 = w.heap.size := ⟨_, rfl⟩
  have HB2 := Lib.hid hb2
  go_enter Tryz.func19, Tryz.ntmps19
  go_upto_region 1 with fail
  have hb0 := Blk.new w 24 #[.int .i64 5, .int .i64 (s : Int), .int .i64 code]
  have ht0 := (Turn.refl nowhere w).alloc (.cells #[.int .i64 5, .int .i64 (s : Int), .int .i64 code] 24)
  generalize (w.alloc (.cells #[.int .i64 5, .int .i64 (s : Int), .int .i64 code] 24)) = w1 at *
  rw [← hb2] at hb0 ⊢
  have HBK := Lib.hid hb0
  have HT0 := Lib.hid ht0
  have c0 : w1.cell? ⟨b2, 0, none⟩ = some (.int .i64 5) := hb0.cell 0
  have c2 : w1.cell? ⟨b2, 2, none⟩ = some (.int .i64 code) := hb0.cell 2
  clear hb0 ht0 hb2
  go_upto_region 7 with fail
  have hS0 : FoS b2 5 (s : Int) code w1.drew := HBK.out
  refine wp_region_till (FoS b2 5 (s : Int) code) 11 (by kernel_rfl) ?_
  refine till_pure (i := 0) (v := .pointer (some ⟨b2, 2, none⟩)) rfl (by kernel_rfl) (by kernel_rfl) (fun _ _ _ h => h) (.inl ⟨by rfl, fun W hW => exec_field (off := 0) (d := 2) rfl rfl (by kernel_rfl)⟩) hS0 ?_
  simp only [Act.put, List.setIfInBounds_toArray, List.set_cons_zero, List.set_cons_succ]
  refine till_take (i := 1) (v := .int .i64 code) rfl (by kernel_rfl) (by kernel_rfl) (fun _ _ _ h => h) (.inl ⟨by rfl, fun W hW => exec_load1 rfl rfl (by kernel_rfl) (hW.cell 2)⟩) hS0 ?_
  simp only [Act.put, List.setIfInBounds_toArray, List.set_cons_zero, List.set_cons_succ]
  refine till_pure (i := 2) (v := strV t) rfl (by kernel_rfl) (by kernel_rfl) (fun _ _ _ h => h) (.inl ⟨by rfl, fun W hW => exec_move rfl rfl⟩) hS0 ?_
  simp only [Act.put, List.setIfInBounds_toArray, List.set_cons_zero, List.set_cons_succ]
  refine till_pure (i := 3) (v := strV m) rfl (by kernel_rfl) (by kernel_rfl) (fun _ _ _ h => h) (.inl ⟨by rfl, fun W hW => by rw [HM.out]; exact exec_sto1 rfl rfl HT1.out⟩) hS0 ?_
  simp only [Act.put, List.setIfInBounds_toArray, List.set_cons_zero, List.set_cons_succ]
  refine till_pure (i := 5) (v := .pointer (some ⟨b2, 2, none⟩)) rfl (by kernel_rfl) (by kernel_rfl) (fun _ _ _ h => h) (.inl ⟨by rfl, fun W hW => exec_field (off := 0) (d := 2) rfl rfl (by kernel_rfl)⟩) hS0 ?_
  simp only [Act.put, List.setIfInBounds_toArray, List.set_cons_zero, List.set_cons_succ]
  refine till_take (i := 6) (v := .int .i64 code) rfl (by kernel_rfl) (by kernel_rfl) (fun _ _ _ h => h) (.inl ⟨by rfl, fun W hW => exec_load1 rfl rfl (by kernel_rfl) (hW.cell 2)⟩) hS0 ?_
  simp only [Act.put, List.setIfInBounds_toArray, List.set_cons_zero, List.set_cons_succ]
  refine till_pure (i := 7) (v := strV t) rfl (by kernel_rfl) (by kernel_rfl) (fun _ _ _ h => h) (.inl ⟨by rfl, fun W hW => exec_move rfl rfl⟩) hS0 ?_
  simp only [Act.put, List.setIfInBounds_toArray, List.set_cons_zero, List.set_cons_succ]
  refine till_pure (i := 8) (v := strV d) rfl (by kernel_rfl) (by kernel_rfl) (fun _ _ _ h => h) (.inl ⟨by rfl, fun W hW => by rw [HD.out]; exact exec_sfrom1 rfl rfl HT1.out⟩) hS0 ?_
  simp only [Act.put, List.setIfInBounds_toArray, List.set_cons_zero, List.set_cons_succ]
  have ht2 : Turn nowhere w1.drew w1.drew := Turn.refl _ _
  have hS2 : FoS b2 5 (s : Int) code w1.drew := hS0
  refine till_step (i := 4) (by kernel_rfl) rfl rfl ?_
  intro K1 HK1
  go_wp2_with fail
  refine (HC1.out w1.drew).mono ?_
  rintro e w3 ⟨A1, n1, c1, rfl, ho1, ht3⟩
  have hS3 : FoS b2 5 (s : Int) code w3 := hS2.turn ht3
  refine HK1.out _ _ ⟨fun _ => hS3, ?_⟩
  clear HK1
  refine till_step (i := 9) (by kernel_rfl) rfl rfl ?_
  intro K1 HK1
  go_wp2_with fail
  refine (HC2.out w3).mono ?_
  rintro e w4 ⟨A2, n2, c2, rfl, ho2, ht4⟩
  have hS4 : FoS b2 5 (s : Int) code w4 := hS3.turn ht4
  refine HK1.out _ _ ⟨fun _ => hS4, ?_⟩
  clear HK1
  refine till_step (i := 10) (by kernel_rfl) rfl rfl ?_
  intro K1 HK1
  have ho1' : Own w4 w1.heap.size 5 (.slice A1 n1 c1) l1 := own_lower (Own.below ho1 (ht4.below (Nat.le_refl _) (fun _ _ e => e)) (Nat.le_refl _)) ht2.size
  obtain ⟨hb2, hn2, hz2⟩ := own_bs ho2
  have hle : w1.heap.size ≤ w4.heap.size := Nat.le_trans ht2.size (Nat.le_trans ht3.size ht4.size)
  refine wp_append_bytes w4 _ _ _ rfl w1.heap.size 5 byteInfo Tryz.underlying22 _ _ rfl ho1' _ n2 c2 l2 rfl hb2 hz2 (by have := hb2.1; have := HLS.out; omega) hle ?_
  intro v5 w5 ho5 hb5
  have hbl : b2 < w1.heap.size := Blk.lt (w := w1) HBK.out
  have hS5 : FoS b2 5 (s : Int) code w5 := (hb5.block b2 hbl).trans hS4
  refine HK1.out _ _ ⟨fun _ => hS5, ?_⟩
  clear HK1
  simp only [Act.put, List.setIfInBounds_toArray, List.set_cons_zero, List.set_cons_succ]
  obtain ⟨A5, n5, c5, rfl, _⟩ := ho5.form
  have HO5 := Lib.hid (own_lower ho5 HT0.out.size)
  have HT5 := Lib.hid (turn_below (((HT0.out.drew.trans ht2 fun _ _ e => e).trans ht3 fun _ _ e => e).trans ht4 fun _ _ e => e) (hb5.mono HT0.out.size))
  clear hS0 hS2 hS3 hS4 hS5 ho1 ho2 ho1' ho5 hb5 hb2 hn2 hz2 hle ht2 ht3 ht4 hbl
  refine till_tail 11 rfl (by kernel_rfl) ?_
  go_wp2_with fail
  refine NoPanic.normal ?_
  go_wp2_with fail
  go_ret
  exact ⟨A5, n5, c5, rfl, HO5.out, HT5.out⟩
theorem upc_nat (b : UInt8) : ((upc b).toNat : Int) = if 97 ≤ b.toNat then (b.toNat : Int) - 32 else (b.toNat : Int) := by
  have h := byte_of (P := fun b => (upc b).toNat = if 97 ≤ b.toNat then b.toNat - 32 else b.toNat) (by decide +kernel) b
  rw [h]
  split <;> omega
set_option maxHeartbeats 2000000 in
set_option maxRecDepth 20000 in
theorem bytes4a_walk (s : Nat) (t : List UInt8) (w : World) (hl : t.length ≤ 1000) :
    Calls Tryz.prog 19 #[fmV ⟨4, (s : Int), 1⟩, strV t] w (Made w (t.map upc)) := by
  have HL := Lib.hid hl
  clear hl
  obtain ⟨n, hn⟩ : ∃ n, n = t.length := ⟨_, rfl⟩
  have HN := Lib.hid hn
  clear hn
  unfold fmV
  obtain ⟨b2, hb2⟩ : ∃ b2, b2 = w.heap.size := ⟨_, rfl⟩
  have HB2 := Lib.hid hb2
  go_enter Tryz.func19, Tryz.ntmps19
  go_upto_region 1 with fail
  have hb0 := Blk.new w 24 #[.int .i64 4, .int .i64 (s : Int), .int .i64 1]
  have ht0 := (Turn.refl nowhere w).alloc (.cells #[.int .i64 4, .int .i64 (s : Int), .int .i64 1] 24)
  generalize (w.alloc (.cells #[.int .i64 4, .int .i64 (s : Int), .int .i64 1] 24)) = w1 at *
  rw [← hb2] at hb0 ⊢
  have HBK := Lib.hid hb0
  have HT0 := Lib.hid ht0
  have c0 : w1.cell? ⟨b2, 0, none⟩ = some (.int .i64 4) := hb0.cell 0
  have c2 : w1.cell? ⟨b2, 2, none⟩ = some (.int .i64 1) := hb0.cell 2
  clear hb0 ht0 hb2
  go_upto_region 12 with fail
  have hown0 := Own.empty w1 w1.heap.size 5 (Nat.le_refl _)
  have hbel0 : Below w1.heap.size w1 (w1.alloc (.cells #[] 5)) := (Below.refl _ w1).alloc (Nat.le_refl _) _
  obtain ⟨B, hB⟩ : ∃ B, B = w1.heap.size := ⟨_, rfl⟩
  rw [← hB] at hown0 hbel0
  have HB := Lib.hid hB
  clear hB
  refine wp_region_lit ?_
  refine wpList_run (v := _) rfl (exec_make0 rfl) ?_
  simp only [Act.put, List.setIfInBounds_toArray, List.set_cons_zero, List.set_cons_succ]
  refine wpList_run (v := .slice (some ⟨w1.heap.size, 0, none⟩) 0 0) rfl (gx_assign rfl rfl) ?_
  simp only [Act.put, List.setIfInBounds_toArray, List.set_cons_zero, List.set_cons_succ]
  rw [← HB.out]
  generalize (w1.alloc (.cells #[] 5)) = w2 at *
  have HO0 := Lib.hid hown0
  have HB0 := Lib.hid hbel0
  clear hown0 hbel0 c0 c2
  go_wp2_with fail
  go_loopg [5, 6] n (fun gk b i wr => ∃ (k : Nat) (A : Option Addr) (m c : Nat), k + gk = n ∧ i = .int .i64 (k : Int) ∧ b = .slice A m c ∧ Own wr B 5 (.slice A m c) ((t.take k).map upc) ∧ Below B w1 wr)
  case atStart => exact ⟨0, some ⟨B, 0, none⟩, 0, 0, by omega, rfl, rfl, HO0.out, HB0.out⟩
  case round =>
    obtain ⟨k, A, m, c, hkl, rfl, rfl, hown, hbel⟩ := hrel
    have HKL := Lib.hid hkl
    have HO := Lib.hid hown
    have HE := Lib.hid hbel
    clear hkl hown hbel
    go_upto_region 14 with fail
    refine wp_region_lit ?_
    refine wpList_run (v := .int .i64 (k : Int)) rfl (exec_move rfl rfl) ?_
    simp only [Act.put, List.setIfInBounds_toArray, List.set_cons_zero, List.set_cons_succ]
    refine wpList_run (v := strV t) rfl (exec_move rfl rfl) ?_
    simp only [Act.put, List.setIfInBounds_toArray, List.set_cons_zero, List.set_cons_succ]
    refine wpList_run (v := .int .i64 (n : Int)) (w' := wr) rfl (by rw [HN.out]; exact exec_slen rfl rfl) ?_
    simp only [Act.put, List.setIfInBounds_toArray, List.set_cons_zero, List.set_cons_succ]
    by_cases hlt : k < n
    · refine wpList_run (v := .bool true) (w' := wr) rfl (exec_lss rfl rfl rfl (by omega)) ?_
      simp only [Act.put, List.setIfInBounds_toArray, List.set_cons_zero, List.set_cons_succ]
      have HLT := Lib.hid hlt
      have HKT := Lib.hid (show k < t.length by rw [← HN.out]; exact hlt)
      clear hlt
      have htk : (t.take (k + 1)).map upc = (t.take k).map upc ++ [upc (t.getD k 0)] := by rw [take_one HKT.out, List.map_append]; rfl
      have hz := upc_nat (t.getD k 0)
      have HTK := Lib.hid htk
      clear htk
      go_upto_region 16 with fail
      refine wp_region_lit ?_
      refine wpList_run (v := strV t) rfl (exec_move rfl rfl) ?_
      simp only [Act.put, List.setIfInBounds_toArray, List.set_cons_zero, List.set_cons_succ]
      refine wpList_run (v := .int .i64 (k : Int)) rfl (exec_move rfl rfl) ?_
      simp only [Act.put, List.setIfInBounds_toArray, List.set_cons_zero, List.set_cons_succ]
      refine wpList_run (v := .int .u8 ((t.getD k 0).toNat : Int)) (w' := wr) rfl (exec_sidx rfl rfl rfl HKT.out) ?_
      simp only [Act.put, List.setIfInBounds_toArray, List.set_cons_zero, List.set_cons_succ]
      generalize upc (t.getD k 0) = z at *
      generalize t.getD k 0 = y at *
      have hyb := y.toNat_lt
      by_cases h97 : 97 ≤ y.toNat
      all_goals
        first
          | (rw [if_pos h97] at hz; have v1 : (97 : Int) ≤ (y.toNat : Int) := (by omega); have v2 : IntKind.u8.wrap ((y.toNat : Int) - 97) = (y.toNat : Int) - 97 := (by rw [wrapu8]; omega); have v3 : IntKind.u8.wrap ((y.toNat : Int) - 97 + 65) = (z.toNat : Int) := (by rw [wrapu8]; omega))
          | (rw [if_neg h97] at hz; have v1 : ¬ ((97 : Int) ≤ (y.toNat : Int)) := (by omega); have v2 : True := trivial; have v3 : True := trivial; obtain rfl : z = y := UInt8.toNat_inj.1 (by omega))
        clear hz h97
        go_upto_region 19 with fail
        clear v1 v2 v3
        refine wp_region_lit ?_
        refine wpList_run (v := .slice A m c) rfl (exec_move rfl rfl) ?_
        simp only [Act.put, List.setIfInBounds_toArray, List.set_cons_zero, List.set_cons_succ]
        refine wpList_run (v := .int .u8 (z.toNat : Int)) rfl (exec_move rfl rfl) ?_
        simp only [Act.put, List.setIfInBounds_toArray, List.set_cons_zero, List.set_cons_succ]
        refine wpList_run (v := _) rfl (exec_one (z := z) rfl rfl) ?_
        simp only [Act.put, List.setIfInBounds_toArray, List.set_cons_zero, List.set_cons_succ]
        have hone := bs_blk (Blk.new wr 5 (bcs [z]).toArray) (n := 1) rfl (by unfold maxLen; omega)
        have hown1 : Own (wr.alloc (.cells (bcs [z]).toArray 5)) B 5 (.slice A m c) ((t.take k).map upc) := HO.out.alloc _
        refine wpList_append_bytes _ rfl _ _ _ rfl B 5 byteInfo Tryz.underlying22 _ _ rfl hown1 _ 1 1 [z] rfl hone (fun h => by cases h) (by rw [List.length_map, List.length_take]; have := HN.out; have := HL.out; omega) (by have := HE.out.size; have := HB.out; simp; omega) ?_
        intro v2 w3 ho2 hb2
        simp only [Act.put, List.setIfInBounds_toArray, List.set_cons_zero, List.set_cons_succ]
        obtain ⟨A2, m2, c2, rfl, _⟩ := ho2.form
        have HO2 := Lib.hid ho2
        have HB2 := Lib.hid hb2
        clear ho2 hb2 hone hown1 hyb
        have b0 : (0 : Int) ≤ (k : Int) := by omega
        have b1 : (k : Int) ≤ 1000 := by have := HLT.out; have := HN.out; have := HL.out; omega
        go_wp2_with fail
        go_roundg (gk - 1)
        case measure => have := HKL.out; have := HLT.out; omega
        case rel =>
          refine ⟨k + 1, A2, m2, c2, by have := HKL.out; have := HLT.out; omega, by go_num, rfl, ?_, (HE.out.alloc (by have := HE.out.size; have := HB.out; omega) _).trans HB2.out⟩
          rw [HTK.out]
          exact HO2.out
    · refine wpList_run (v := .bool false) (w' := wr) rfl (exec_nlss rfl rfl rfl (by omega)) ?_
      simp only [Act.put, List.setIfInBounds_toArray, List.set_cons_zero, List.set_cons_succ]
      have hkn : t.take k = t := List.take_of_length_le (by have := HKL.out; have := HN.out; omega)
      have ho := HO.out
      rw [hkn] at ho
      have HOO := Lib.hid ho
      have HTW := Lib.hid (turn_below HT0.out (HE.out.mono (by rw [HB.out]; exact HT0.out.size)))
      clear hlt hkn ho
      go_wp2_with fail
      go_ret
      exact ⟨A, m, c, rfl, own_lower HOO.out (by rw [HB.out]; exact HT0.out.size), HTW.out⟩
/-- the reference's bytes of a right text -/
theorem bytes_walk {k s c : Nat} {t : List UInt8} (w : World) (hk : 1 ≤ k ∧ k ≤ 5) (hc : 1 ≤ c ∧ c ≤ 3) (hs : 1 ≤ s ∧ s ≤ 64) (hr : (nf k s c).right t = true) :
    Calls Tryz.prog 19 #[fmV (nf k s c), strV t] w (Made w ((nf k s c).put t)) := by
  rw [← rbytes_put hk hc hs hr]
  have hkk : k = 1 ∨ k = 2 ∨ k = 3 ∨ k = 4 ∨ k = 5 := by omega
  rcases hkk with rfl | rfl | rfl | rfl | rfl
  · rw [right_nl (by decide)] at hr
    obtain ⟨h1, h2⟩ := right_one (p := ⟨s, dec, _⟩) hr
    have h2' : t.length = s := h2
    exact bytes1_walk s (c : Int) t w (by omega) h1
  · obtain ⟨hl, hr2⟩ := ll_right hr
    obtain ⟨h1, h2⟩ := right_one (p := ⟨t.length, dec, _⟩) hr2
    exact bytes2_walk s (c : Int) t w (by omega) h1
  · rw [right_nl (by decide)] at hr
    obtain ⟨h1, h2⟩ := right_one (p := ⟨s, sgn, _⟩) hr
    have h2' : t.length = s := h2
    exact bytes3_walk s (c : Int) t w (by omega)
  · rw [right_nl (by decide)] at hr
    obtain ⟨h1, h2⟩ := right_one (p := ⟨2 * s, hexs, _⟩) hr
    have h2' : t.length = 2 * s := h2
    by_cases h : c = 1
    · subst h
      exact bytes4a_walk s t w (by omega)
    · have e : rbytes (nf 4 s c) t = rpack (padded t) := by
        show (if (c : Int) ≠ 1 then rpack (padded t) else t.map upc) = _
        rw [if_pos (by omega)]
      rw [e]
      exact bytes4p_walk s (c : Int) t w (by omega) h1 (by omega)
  · rw [right_nl (by decide)] at hr
    obtain ⟨h1, h2, h3⟩ := right_two (p := ⟨1, mk, _⟩) (q := ⟨s, dec, _⟩) hr
    obtain ⟨h4, h5⟩ := right_one h3
    have h1' : 1 ≤ t.length := h1
    have h5' : (t.drop 1).length = s := h5
    rw [List.length_drop] at h5'
    exact bytes5_walk s (c : Int) t w (by omega) h1' h4
end Go.Proofs.YtgdlidjjogoiaaaGreatDoor
