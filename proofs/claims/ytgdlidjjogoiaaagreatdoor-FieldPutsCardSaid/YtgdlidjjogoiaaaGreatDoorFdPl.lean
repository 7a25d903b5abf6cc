/-
  groatlaw04's FieldPuts, walked. Conditions: the rows read as the program's text lays them.
-/
import Derived.Test.YtgdlidjjogoiaaaGreatDoorFdPg
namespace Go.Proofs.YtgdlidjjogoiaaaGreatDoor
open Go.RowKit
open Fdd
set_option linter.unusedVariables false
set_option linter.unusedSimpArgs false
/-- a slice of the call's own, whatever it holds -/
def Held1 (w : World) (B : Nat) (v : Value) (n : Nat) : Prop := ∃ xs, w.ownsRow B 5 1 v n xs
theorem Held1.of {w : World} {B : Nat} {A : Option Addr} {n c : Nat} {l : List UInt8} (h : Own w B 5 (.slice A n c) l) : Held1 w B (.slice A n c) n := by
  have hl := (own_bs h).1.1
  unfold Own at h
  rw [hl] at h
  exact ⟨_, h⟩
theorem Held1.some {w : World} {B : Nat} {A : Option Addr} {n c : Nat} (h : Held1 w B (.slice A n c) n) (h0 : 0 < n) : ∃ g, A = some ⟨g, 0, none⟩ ∧ B ≤ g ∧ n ≤ c ∧ ∀ k, k < n → (∃ v, w.cell? ⟨g, k, none⟩ = some v) ∧ w.frozen? ⟨g, k, none⟩ = false ∧ ∀ u, Held1 (w.setCell ⟨g, k, none⟩ u) B (.slice A n c) n := by
  obtain ⟨xs, h1, h2⟩ := h
  rcases h2 with ⟨hv, hn⟩ | ⟨g, cap, cur, hv, hg, hb, hn, hm, hs, ht⟩
  · omega
  · injection hv with e1 e2 e3
    subst e1 e3
    refine ⟨g, rfl, hg, hn, fun k hk => ?_⟩
    have hB : Blk w g 5 cur := hb
    refine ⟨⟨cur[k]'(by omega), by rw [hB.cell, Array.getElem?_eq_getElem (by omega)]⟩, hB.frozen k, fun u => ⟨(cur.setIfInBounds k u).toList.take (n * 1), ?_, .inr ⟨g, c, cur.setIfInBounds k u, rfl, hg, hB.set_ k u, hn, hm, by rw [Array.size_setIfInBounds]; exact hs, rfl⟩⟩⟩
    rw [List.length_take]
    simp
    omega
theorem size_u8 : (Tryz.prog.info? 5).map (·.size) = some 1 := by kernel_rfl
def PuS (b4 : Nat) (x0 x1 x2 : Int) (A10 A12 A8 : Option Addr) (g9 o9 n10 n12 n8 len : Nat) (Lx bs : List UInt8) (W : World) : Prop :=
  Blk W b4 24 #[.int .i64 x0, .int .i64 x1, .int .i64 x2] ∧ Bs W A10 n10 Lx ∧ Bs W A12 n12 Lx ∧ Bs W (some ⟨g9, o9, none⟩) (len + 1) (bs ++ [77]) ∧ Bs W A8 n8 bs
theorem PuS.turn {b4 : Nat} {x0 x1 x2 : Int} {A10 A12 A8 : Option Addr} {g9 o9 n10 n12 n8 len : Nat} {Lx bs : List UInt8} {W W' : World} (h : PuS b4 x0 x1 x2 A10 A12 A8 g9 o9 n10 n12 n8 len Lx bs W) (ht : Turn nowhere W W') : PuS b4 x0 x1 x2 A10 A12 A8 g9 o9 n10 n12 n8 len Lx bs W' :=
  ⟨h.1.turn ht fun e => e, bs_turn h.2.1 ht, bs_turn h.2.2.1 ht, bs_turn h.2.2.2.1 ht, bs_turn h.2.2.2.2 ht⟩
theorem bs_front {W : World} {g o n : Nat} {l : List UInt8} {x : UInt8} (h : Bs W (some ⟨g, o, none⟩) (n + 1) (l ++ [x])) : Bs W (some ⟨g, o, none⟩) n l := by
  have hl := h.1
  have h2 := bs_take (i := n) h (by omega)
  rw [List.length_append] at hl
  simp at hl
  rwa [List.take_append_of_le_length (by omega), List.take_of_length_le (by omega)] at h2
theorem bs_last {W : World} {g o n : Nat} {l : List UInt8} {x : UInt8} (h : Bs W (some ⟨g, o, none⟩) (n + 1) (l ++ [x])) : W.cell? ⟨g, o + n, none⟩ = some (.int .u8 (x.toNat : Int)) := by
  have hl := h.1
  rw [List.length_append] at hl
  simp at hl
  obtain ⟨b, off, e, hc⟩ := h.2.2 (by omega)
  injection e with e
  injection e with e1 e2 e3
  subst e1 e2
  rw [hc n (by omega)]
  congr 3
  rw [List.getD_eq_getElem?_getD, List.getElem?_append_right (by omega), hl]
  simp
set_option maxRecDepth 40000 in
set_option maxHeartbeats 4000000 in
theorem fieldPuts_walk (a : Option Addr) (len cap : Nat) (bs : List UInt8) (f : Fm) (t : List UInt8) (W : World) (hrows : RowsT W) (hb : Bs W a len bs) (hnn : a = none → cap = 0) (hle : len ≤ cap) (hn : len ≤ 140737488351232) (hl : t.length ≤ 9223372036854775807) :
    Calls Tryz.prog 3 #[.slice a len cap, fmV f, strV t] W fun e w' => e = .returned (.bool true) ∧ Below W.heap.size W w' := by
  have HB := Lib.hid hb
  have HR := Lib.hid hrows
  have HZZ := Lib.hid hnn
  have HLE := Lib.hid hle
  have HN := Lib.hid hn
  have HL := Lib.hid hl
  have hbl : bs.length = len := hb.1
  have HBL := Lib.hid hbl
  clear hb hrows hnn hle hn hl hbl
  have HP := Lib.hid (fun (w : World) (A : Option Addr) (n c : Nat) (b : List UInt8) (h1 : RowsT w) (h2 : Bs w A n b) (h3 : n ≤ 140737488351232) => put_all (f := f) (t := t) (cap := c) h1 h2 h3)
  have HQ := Lib.hid (fun (w : World) (A : Option Addr) (n c : Nat) (b : List UInt8) (h2 : Bs w A n b) (hz : A = none → c = 0) (h3 : n ≤ 140737488351232) => rput_walk (f := f) (t := t) h2 hz h3 HL.out)
  have HC := Lib.hid (fun (w : World) (h1 : RowsT w) => check_walk (f := f) (t := t) h1)
  have HD := Lib.hid (fun (w : World) => rcheck_walk (f := f) w HL.out)
  unfold PutPost at HP HQ
  generalize putR f t = PR at *
  generalize f.check t = ke at *
  obtain ⟨x0, x1, x2⟩ := f
  have hfv : fmV ⟨x0, x1, x2⟩ = .agg #[.int .i64 x0, .int .i64 x1, .int .i64 x2] := rfl
  rw [hfv] at HP HQ HC HD ⊢
  clear hfv
  obtain ⟨b4, hb4⟩ : ∃ b4, b4 = W.heap.size := ⟨_, rfl⟩
  go_enter Tryz.func3, Tryz.ntmps3
  go_upto_region 1 with fail
  have hb0 := Blk.new W 24 #[.int .i64 x0, .int .i64 x1, .int .i64 x2]
  have ht0 := (Turn.refl nowhere W).alloc (.cells #[.int .i64 x0, .int .i64 x1, .int .i64 x2] 24)
  generalize (W.alloc (.cells #[.int .i64 x0, .int .i64 x1, .int .i64 x2] 24)) = w0 at *
  rw [← hb4] at hb0 ⊢
  have HF0 := Lib.hid hb0
  have HT0 := Lib.hid ht0
  clear hb0 ht0 hb4
  go_upto_region 2 with (go_at_call 5; refine (shown_walk _ (HR.out.turn HT0.out)).mono ?_; rintro e w1 ⟨rfl, ht1⟩)
  have HT1 := Lib.hid (HT0.out.trans ht1 (fun _ _ e => e))
  have HF1 := Lib.hid (HF0.out.turn ht1 (fun e => e))
  clear ht1
  refine wp_region_lit ?_
  refine wpList_run (v := _) rfl (exec_make0 rfl) ?_
  simp only [Act.put, List.setIfInBounds_toArray, List.set_cons_zero, List.set_cons_succ]
  refine wpList_run (v := .slice a len cap) rfl (exec_move rfl rfl) ?_
  simp only [Act.put, List.setIfInBounds_toArray, List.set_cons_zero, List.set_cons_succ]
  have hown0 := Own.empty w1 w1.heap.size 5 (Nat.le_refl _)
  have hb1 : Bs (w1.alloc (.cells #[] 5)) a len bs := bs_turn HB.out (HT1.out.alloc _)
  have hb2t : Below w1.heap.size w1 (w1.alloc (.cells #[] 5)) := (Below.refl _ w1).alloc (Nat.le_refl _) _
  have hle3 : w1.heap.size ≤ (w1.alloc (.cells #[] 5)).heap.size := by simp
  generalize (w1.alloc (.cells #[] 5)) = w2 at *
  refine wpList_append_bytes w2 rfl _ _ _ rfl w1.heap.size 5 byteInfo Tryz.underlying22 _ [] rfl hown0 a len cap bs rfl hb1 HZZ.out (by have := HN.out; simp; omega) hle3 ?_
  intro v3 w3 ho3 hb3
  rw [List.nil_append] at ho3
  obtain ⟨A8, n8, c8, rfl, hbs8, _⟩ := ho3.form
  simp only [Act.put, List.setIfInBounds_toArray, List.set_cons_zero, List.set_cons_succ]
  have hbel := hb2t.trans hb3
  have ht13 := Turn.of_below hbel (Nat.le_refl _)
  have HT3 := Lib.hid (HT1.out.trans ht13 fun _ _ e => e)
  have HF3 := Lib.hid (HF1.out.turn ht13 fun e => e)
  have H8 := Lib.hid hbs8
  clear ho3 hb3 hown0 hb1 hb2t hle3 hbs8 hbel ht13
  go_upto_region 3 with fail
  refine wp_region_lit ?_
  refine wpList_run (v := .slice a len cap) rfl (exec_move rfl rfl) ?_
  simp only [Act.put, List.setIfInBounds_toArray, List.set_cons_zero, List.set_cons_succ]
  refine wpList_run (v := .int .i64 (len : Int)) (w' := w3) rfl (gx_len rfl rfl Tryz.underlying22) ?_
  simp only [Act.put, List.setIfInBounds_toArray, List.set_cons_zero, List.set_cons_succ]
  refine wpList_run (v := .int .i64 ((len + 200 : Nat) : Int)) (w' := w3) rfl (by have h := HN.out; go_simp; rw [IntKind.wrap_i64]; omega) ?_
  simp only [Act.put, List.setIfInBounds_toArray, List.set_cons_zero, List.set_cons_succ]
  obtain ⟨j0, hj0, hjz, hj1, hj2⟩ := info_parts byteInfo
  obtain ⟨w4, hmk, hown4r, hg4⟩ := run_make_own (P := Tryz.prog) w3 w3.heap.size 22 5 j0 _ 1 Tryz.underlying22 hj0 hjz hj1 .i64 .i64 (len + 200) (by rw [hj2]; have := HN.out; omega) (by unfold maxLen; have := HN.out; omega) (Nat.le_refl _)
  have hown4 : Own w4 w3.heap.size 5 (.slice (some ⟨w3.heap.size, 0, none⟩) 0 (len + 200)) [] := hown4r
  have hb2t : Below w3.heap.size w3 w4 := (Below.refl _ w3).grown hg4 (Nat.le_refl _) (fun k e => by cases e)
  have hb1 : Bs w4 a len bs := bs_turn HB.out (HT3.out.trans (Turn.of_below hb2t (Nat.le_refl _)) fun _ _ e => e)
  have hle3 : w3.heap.size ≤ w4.heap.size := hb2t.size
  refine wpList_run (v := _) rfl (gx_make rfl rfl rfl hmk) ?_
  simp only [Act.put, List.setIfInBounds_toArray, List.set_cons_zero, List.set_cons_succ]
  refine wpList_run (v := .slice a len cap) rfl (exec_move rfl rfl) ?_
  simp only [Act.put, List.setIfInBounds_toArray, List.set_cons_zero, List.set_cons_succ]
  refine wpList_append_bytes w4 rfl _ _ _ rfl w3.heap.size 5 byteInfo Tryz.underlying22 _ [] rfl hown4 a len cap bs rfl hb1 HZZ.out (by have := HN.out; simp; omega) hle3 ?_
  intro v5 w5 ho5 hb5
  rw [List.nil_append] at ho5
  obtain ⟨A5, n5, c5, rfl, hbs5, _⟩ := ho5.form
  simp only [Act.put, List.setIfInBounds_toArray, List.set_cons_zero, List.set_cons_succ]
  refine wpList_run (v := _) rfl (exec_one (z := 77) rfl rfl) ?_
  simp only [Act.put, List.setIfInBounds_toArray, List.set_cons_zero, List.set_cons_succ]
  have hone := bs_blk (Blk.new w5 5 (bcs [77]).toArray) (n := 1) rfl (by unfold maxLen; omega)
  have hown6 : Own (w5.alloc (.cells (bcs [77]).toArray 5)) w3.heap.size 5 (.slice A5 n5 c5) bs := ho5.alloc _
  have hbt := (hb2t.trans hb5)
  have hbt6 := hbt.alloc (Nat.le_trans hbt.size (Nat.le_refl _)) (.cells (bcs [77]).toArray 5)
  refine wpList_append_bytes _ rfl _ _ _ rfl w3.heap.size 5 byteInfo Tryz.underlying22 _ bs rfl hown6 _ 1 1 [77] rfl hone (fun h => by cases h) (by have := HN.out; have := HBL.out; omega) hbt6.size ?_
  intro v6 w6 ho6 hb6
  obtain ⟨A9, n9, c9, rfl, hbs9, hnc9, _⟩ := ho6.form
  simp only [Act.put, List.setIfInBounds_toArray, List.set_cons_zero, List.set_cons_succ]
  have hn9 : n9 = len + 1 := by
    have h1 := hbs9.1
    have h2 := HBL.out
    rw [List.length_append] at h1
    simp at h1
    omega
  subst hn9
  obtain ⟨g9, o9, rfl, _⟩ := hbs9.2.2 (by omega)
  have hbel := hbt6.trans hb6
  have ht36 := Turn.of_below hbel (Nat.le_refl _)
  have HT6 := Lib.hid (HT3.out.trans ht36 fun _ _ e => e)
  have HF6 := Lib.hid (HF3.out.turn ht36 fun e => e)
  have H8 := Lib.hid (bs_turn H8.out ht36)
  have H9 := Lib.hid hbs9
  have H8s := H8
  have HC9 := Lib.hid hnc9
  clear ho5 hb5 hbs5 hone hown6 hbt hbt6 ho6 hb6 hbs9 hnc9 hbel ht36 hown4 hown4r hg4 hb1 hb2t hle3 hmk hj0 hjz hj1 hj2
  refine wpList_run (v := .slice a len cap) rfl (exec_move rfl rfl) ?_
  simp only [Act.put, List.setIfInBounds_toArray, List.set_cons_zero, List.set_cons_succ]
  refine wpList_run (v := .int .i64 (len : Int)) (w' := w6) rfl (gx_len rfl rfl Tryz.underlying22) ?_
  simp only [Act.put, List.setIfInBounds_toArray, List.set_cons_zero, List.set_cons_succ]
  refine wpList_run (v := .slice (some ⟨g9, o9, none⟩) len c9) (w' := w6) rfl (exec_bto rfl rfl rfl (by have := HC9.out; omega)) ?_
  simp only [Act.put, List.setIfInBounds_toArray, List.set_cons_zero, List.set_cons_succ]
  go_upto_region 4 with fail
  refine wp_region_lit ?_
  refine wpList_run (v := .slice (some ⟨g9, o9, none⟩) len c9) rfl (exec_move rfl rfl) ?_
  simp only [Act.put, List.setIfInBounds_toArray, List.set_cons_zero, List.set_cons_succ]
  refine wpList_run (v := .agg #[.int .i64 x0, .int .i64 x1, .int .i64 x2]) (w' := w6) rfl (exec_load rfl rfl (load_blkForm HF6.out)) ?_
  simp only [Act.put, List.setIfInBounds_toArray, List.set_cons_zero, List.set_cons_succ]
  go_wp2_with fail
  refine (HP.out w6 _ len c9 bs (HR.out.turn HT6.out) (bs_front H9.out) HN.out).mono ?_
  rintro e w7 ⟨A10, n10, c10, rfl, ho10, ht7⟩
  have HT7 := Lib.hid (HT6.out.trans ht7 fun _ _ e => e)
  have HF7 := Lib.hid (HF6.out.turn ht7 fun e => e)
  have HT67 := Lib.hid ht7
  have H8 := Lib.hid (bs_turn H8.out ht7)
  have HO10 := Lib.hid ho10
  have H9' := Lib.hid (bs_turn H9.out ht7)
  clear ho10 ht7
  go_upto_region 5 with fail
  refine wp_region_lit ?_
  refine wpList_run (v := .slice a len cap) rfl (exec_move rfl rfl) ?_
  simp only [Act.put, List.setIfInBounds_toArray, List.set_cons_zero, List.set_cons_succ]
  refine wpList_run (v := .agg #[.int .i64 x0, .int .i64 x1, .int .i64 x2]) (w' := w7) rfl (exec_load rfl rfl (load_blkForm HF7.out)) ?_
  simp only [Act.put, List.setIfInBounds_toArray, List.set_cons_zero, List.set_cons_succ]
  go_wp2_with fail
  refine (HQ.out w7 a len cap bs (bs_turn HB.out HT7.out) HZZ.out HN.out).mono ?_
  rintro e w8 ⟨A12, n12, c12, rfl, ho12, ht8⟩
  have HT8 := Lib.hid (HT7.out.trans ht8 fun _ _ e => e)
  have HT68 := Lib.hid (HT67.out.trans ht8 fun _ _ e => e)
  have HO10 := Lib.hid (Own.below HO10.out (ht8.below (Nat.le_refl _) fun _ _ e => e) (Nat.le_refl _))
  have hS := (⟨HF7.out.turn ht8 fun e => e, (own_bs HO10.out).1, (own_bs ho12).1, bs_turn H9'.out ht8, bs_turn H8.out ht8⟩ : PuS b4 x0 x1 x2 A10 A12 A8 g9 o9 n10 n12 n8 len (PR bs) bs w8)
  clear ho12 ht8
  generalize PR bs = Lx at *
  go_upto_region 6 with fail
  have hS0 : PuS b4 x0 x1 x2 A10 A12 A8 g9 o9 n10 n12 n8 len Lx bs w8.drew := PuS.turn hS (Turn.refl nowhere w8).drew
  clear hS
  refine wp_region_alw (PuS b4 x0 x1 x2 A10 A12 A8 g9 o9 n10 n12 n8 len Lx bs) (by kernel_rfl) ?_
  refine alw_take (i := 0) (v := .bool true) rfl (by kernel_rfl) (by kernel_rfl) (fun _ _ _ h => h) (.inl ⟨by rfl, fun W hW => exec_move rfl rfl⟩) hS0 ?_
  simp only [Act.put, List.setIfInBounds_toArray, List.set_cons_zero, List.set_cons_succ]
  refine alw_take (i := 1) (v := .bool false) rfl (by kernel_rfl) (by kernel_rfl) (fun _ _ _ h => h) (.inl ⟨by rfl, fun W hW => by go_simp⟩) hS0 ?_
  simp only [Act.put, List.setIfInBounds_toArray, List.set_cons_zero, List.set_cons_succ]
  refine alw_take (i := 2) (v := .bool false) rfl (by kernel_rfl) (by kernel_rfl) (fun _ _ _ h => h) (.inl ⟨by rfl, fun W hW => exec_move rfl rfl⟩) hS0 ?_
  simp only [Act.put, List.setIfInBounds_toArray, List.set_cons_zero, List.set_cons_succ]
  refine alw_take (i := 3) (v := .int .i64 ke) rfl (by kernel_rfl) (by kernel_rfl) (fun _ _ _ h => h) (.inl ⟨by rfl, fun W hW => exec_move rfl rfl⟩) hS0 ?_
  simp only [Act.put, List.setIfInBounds_toArray, List.set_cons_zero, List.set_cons_succ]
  refine alw_take (i := 4) (v := .int .i64 ke) rfl (by kernel_rfl) (by kernel_rfl) (fun _ _ _ h => h) (.inl ⟨by rfl, fun W hW => exec_move rfl rfl⟩) hS0 ?_
  simp only [Act.put, List.setIfInBounds_toArray, List.set_cons_zero, List.set_cons_succ]
  refine alw_take (i := 5) (v := .bool false) rfl (by kernel_rfl) (by kernel_rfl) (fun _ _ _ h => h) (.inl ⟨by rfl, fun W hW => by go_simp⟩) hS0 ?_
  simp only [Act.put, List.setIfInBounds_toArray, List.set_cons_zero, List.set_cons_succ]
  refine alw_take (i := 6) (v := .bool false) rfl (by kernel_rfl) (by kernel_rfl) (fun _ _ _ h => h) (.inl ⟨by rfl, fun W hW => by go_simp⟩) hS0 ?_
  simp only [Act.put, List.setIfInBounds_toArray, List.set_cons_zero, List.set_cons_succ]
  refine alw_take (i := 7) (v := .bool false) rfl (by kernel_rfl) (by kernel_rfl) (fun _ _ _ h => h) (.inl ⟨by rfl, fun W hW => exec_move rfl rfl⟩) hS0 ?_
  simp only [Act.put, List.setIfInBounds_toArray, List.set_cons_zero, List.set_cons_succ]
  refine alw_take (i := 8) (v := .slice A10 n10 c10) rfl (by kernel_rfl) (by kernel_rfl) (fun _ _ _ h => h) (.inl ⟨by rfl, fun W hW => exec_move rfl rfl⟩) hS0 ?_
  simp only [Act.put, List.setIfInBounds_toArray, List.set_cons_zero, List.set_cons_succ]
  refine alw_take (i := 9) (v := strV Lx) rfl (by kernel_rfl) (by kernel_rfl) (fun _ _ _ h => h) (.inl ⟨by rfl, fun W hW => exec_strBs rfl rfl hW.2.1⟩) hS0 ?_
  simp only [Act.put, List.setIfInBounds_toArray, List.set_cons_zero, List.set_cons_succ]
  refine alw_take (i := 10) (v := .slice A12 n12 c12) rfl (by kernel_rfl) (by kernel_rfl) (fun _ _ _ h => h) (.inl ⟨by rfl, fun W hW => exec_move rfl rfl⟩) hS0 ?_
  simp only [Act.put, List.setIfInBounds_toArray, List.set_cons_zero, List.set_cons_succ]
  refine alw_take (i := 11) (v := strV Lx) rfl (by kernel_rfl) (by kernel_rfl) (fun _ _ _ h => h) (.inl ⟨by rfl, fun W hW => exec_strBs rfl rfl hW.2.2.1⟩) hS0 ?_
  simp only [Act.put, List.setIfInBounds_toArray, List.set_cons_zero, List.set_cons_succ]
  refine alw_take (i := 12) (v := .bool false) rfl (by kernel_rfl) (by kernel_rfl) (fun _ _ _ h => h) (.inl ⟨by rfl, fun W hW => exec_nself rfl rfl rfl⟩) hS0 ?_
  simp only [Act.put, List.setIfInBounds_toArray, List.set_cons_zero, List.set_cons_succ]
  refine alw_take (i := 13) (v := .bool false) rfl (by kernel_rfl) (by kernel_rfl) (fun _ _ _ h => h) (.inl ⟨by rfl, fun W hW => by go_simp⟩) hS0 ?_
  simp only [Act.put, List.setIfInBounds_toArray, List.set_cons_zero, List.set_cons_succ]
  refine alw_take (i := 14) (v := .bool false) rfl (by kernel_rfl) (by kernel_rfl) (fun _ _ _ h => h) (.inl ⟨by rfl, fun W hW => exec_move rfl rfl⟩) hS0 ?_
  simp only [Act.put, List.setIfInBounds_toArray, List.set_cons_zero, List.set_cons_succ]
  refine alw_take (i := 15) (v := .agg #[.int .i64 x0, .int .i64 x1, .int .i64 x2]) rfl (by kernel_rfl) (by kernel_rfl) (fun _ _ _ h => h) (.inl ⟨by rfl, fun W hW => exec_load rfl rfl (load_blkForm hW.1)⟩) hS0 ?_
  simp only [Act.put, List.setIfInBounds_toArray, List.set_cons_zero, List.set_cons_succ]
  refine alw_take (i := 16) (v := strV t) rfl (by kernel_rfl) (by kernel_rfl) (fun _ _ _ h => h) (.inl ⟨by rfl, fun W hW => exec_move rfl rfl⟩) hS0 ?_
  simp only [Act.put, List.setIfInBounds_toArray, List.set_cons_zero, List.set_cons_succ]
  refine alw_take (i := 18) (v := .agg #[.int .i64 x0, .int .i64 x1, .int .i64 x2]) rfl (by kernel_rfl) (by kernel_rfl) (fun _ _ _ h => h) (.inl ⟨by rfl, fun W hW => exec_load rfl rfl (load_blkForm hW.1)⟩) hS0 ?_
  simp only [Act.put, List.setIfInBounds_toArray, List.set_cons_zero, List.set_cons_succ]
  refine alw_take (i := 19) (v := strV t) rfl (by kernel_rfl) (by kernel_rfl) (fun _ _ _ h => h) (.inl ⟨by rfl, fun W hW => exec_move rfl rfl⟩) hS0 ?_
  simp only [Act.put, List.setIfInBounds_toArray, List.set_cons_zero, List.set_cons_succ]
  refine alw_step (i := 17) (by kernel_rfl) rfl rfl ?_
  intro K1 HK1
  go_wp2_with fail
  refine (HC.out _ (HR.out.turn HT8.out.drew)).mono ?_
  rintro e w9 ⟨rfl, ht9⟩
  have hS1 := PuS.turn hS0 ht9
  refine HK1.out _ _ ⟨hS1, ?_⟩
  clear HK1
  refine alw_step (i := 20) (by kernel_rfl) rfl rfl ?_
  intro K1 HK1
  go_wp2_with fail
  refine (HD.out w9).mono ?_
  rintro e w10 ⟨rfl, ht10⟩
  have hS2 := PuS.turn hS1 ht10
  refine HK1.out _ _ ⟨hS2, ?_⟩
  clear HK1
  refine alw_take (i := 21) (v := .bool false) rfl (by kernel_rfl) (by kernel_rfl) (fun _ _ _ h => h) (.inl ⟨by rfl, fun W hW => by go_simp⟩) hS2 ?_
  simp only [Act.put, List.setIfInBounds_toArray, List.set_cons_zero, List.set_cons_succ]
  refine alw_take (i := 22) (v := .bool false) rfl (by kernel_rfl) (by kernel_rfl) (fun _ _ _ h => h) (.inl ⟨by rfl, fun W hW => by go_simp⟩) hS2 ?_
  simp only [Act.put, List.setIfInBounds_toArray, List.set_cons_zero, List.set_cons_succ]
  refine alw_take (i := 23) (v := .bool false) rfl (by kernel_rfl) (by kernel_rfl) (fun _ _ _ h => h) (.inl ⟨by rfl, fun W hW => exec_move rfl rfl⟩) hS2 ?_
  simp only [Act.put, List.setIfInBounds_toArray, List.set_cons_zero, List.set_cons_succ]
  refine alw_take (i := 24) (v := .slice (some ⟨g9, o9, none⟩) len c9) rfl (by kernel_rfl) (by kernel_rfl) (fun _ _ _ h => h) (.inl ⟨by rfl, fun W hW => exec_move rfl rfl⟩) hS2 ?_
  simp only [Act.put, List.setIfInBounds_toArray, List.set_cons_zero, List.set_cons_succ]
  refine alw_take (i := 25) (v := strV bs) rfl (by kernel_rfl) (by kernel_rfl) (fun _ _ _ h => h) (.inl ⟨by rfl, fun W hW => exec_strBs rfl rfl (bs_front hW.2.2.2.1)⟩) hS2 ?_
  simp only [Act.put, List.setIfInBounds_toArray, List.set_cons_zero, List.set_cons_succ]
  refine alw_take (i := 26) (v := .slice A8 n8 c8) rfl (by kernel_rfl) (by kernel_rfl) (fun _ _ _ h => h) (.inl ⟨by rfl, fun W hW => exec_move rfl rfl⟩) hS2 ?_
  simp only [Act.put, List.setIfInBounds_toArray, List.set_cons_zero, List.set_cons_succ]
  refine alw_take (i := 27) (v := strV bs) rfl (by kernel_rfl) (by kernel_rfl) (fun _ _ _ h => h) (.inl ⟨by rfl, fun W hW => exec_strBs rfl rfl hW.2.2.2.2⟩) hS2 ?_
  simp only [Act.put, List.setIfInBounds_toArray, List.set_cons_zero, List.set_cons_succ]
  refine alw_take (i := 28) (v := .bool false) rfl (by kernel_rfl) (by kernel_rfl) (fun _ _ _ h => h) (.inl ⟨by rfl, fun W hW => exec_nself rfl rfl rfl⟩) hS2 ?_
  simp only [Act.put, List.setIfInBounds_toArray, List.set_cons_zero, List.set_cons_succ]
  refine alw_take (i := 29) (v := .bool false) rfl (by kernel_rfl) (by kernel_rfl) (fun _ _ _ h => h) (.inl ⟨by rfl, fun W hW => by go_simp⟩) hS2 ?_
  simp only [Act.put, List.setIfInBounds_toArray, List.set_cons_zero, List.set_cons_succ]
  refine alw_take (i := 30) (v := .bool false) rfl (by kernel_rfl) (by kernel_rfl) (fun _ _ _ h => h) (.inl ⟨by rfl, fun W hW => exec_move rfl rfl⟩) hS2 ?_
  simp only [Act.put, List.setIfInBounds_toArray, List.set_cons_zero, List.set_cons_succ]
  refine alw_take (i := 31) (v := .slice (some ⟨g9, o9, none⟩) len c9) rfl (by kernel_rfl) (by kernel_rfl) (fun _ _ _ h => h) (.inl ⟨by rfl, fun W hW => exec_move rfl rfl⟩) hS2 ?_
  simp only [Act.put, List.setIfInBounds_toArray, List.set_cons_zero, List.set_cons_succ]
  refine alw_take (i := 32) (v := .slice a len cap) rfl (by kernel_rfl) (by kernel_rfl) (fun _ _ _ h => h) (.inl ⟨by rfl, fun W hW => exec_move rfl rfl⟩) hS2 ?_
  simp only [Act.put, List.setIfInBounds_toArray, List.set_cons_zero, List.set_cons_succ]
  refine alw_take (i := 33) (v := .int .i64 (len : Int)) rfl (by kernel_rfl) (by kernel_rfl) (fun _ _ _ h => h) (.inl ⟨by rfl, fun W hW => gx_len rfl rfl Tryz.underlying22⟩) hS2 ?_
  simp only [Act.put, List.setIfInBounds_toArray, List.set_cons_zero, List.set_cons_succ]
  refine alw_take (i := 34) (v := .int .i64 ((len + 1 : Nat) : Int)) rfl (by kernel_rfl) (by kernel_rfl) (fun _ _ _ h => h) (.inl ⟨by rfl, fun W hW => by have h := HN.out; go_simp; rw [IntKind.wrap_i64]; omega⟩) hS2 ?_
  simp only [Act.put, List.setIfInBounds_toArray, List.set_cons_zero, List.set_cons_succ]
  refine alw_take (i := 35) (v := .slice (some ⟨g9, o9, none⟩) (len + 1) c9) rfl (by kernel_rfl) (by kernel_rfl) (fun _ _ _ h => h) (.inl ⟨by rfl, fun W hW => exec_bto rfl rfl rfl HC9.out⟩) hS2 ?_
  simp only [Act.put, List.setIfInBounds_toArray, List.set_cons_zero, List.set_cons_succ]
  refine alw_take (i := 36) (v := .slice a len cap) rfl (by kernel_rfl) (by kernel_rfl) (fun _ _ _ h => h) (.inl ⟨by rfl, fun W hW => exec_move rfl rfl⟩) hS2 ?_
  simp only [Act.put, List.setIfInBounds_toArray, List.set_cons_zero, List.set_cons_succ]
  refine alw_take (i := 37) (v := .int .i64 (len : Int)) rfl (by kernel_rfl) (by kernel_rfl) (fun _ _ _ h => h) (.inl ⟨by rfl, fun W hW => gx_len rfl rfl Tryz.underlying22⟩) hS2 ?_
  simp only [Act.put, List.setIfInBounds_toArray, List.set_cons_zero, List.set_cons_succ]
  refine alw_take (i := 38) (v := .pointer (some ⟨g9, o9 + len, none⟩)) rfl (by kernel_rfl) (by kernel_rfl) (fun _ _ _ h => h) (.inl ⟨by rfl, fun W hW => gx_iaddr (off := o9) (n := len + 1) (c := c9) (i := len) (sz := 1) (k := .i64) rfl rfl rfl Tryz.underlying22 size_u8 (by omega) (by omega)⟩) hS2 ?_
  simp only [Act.put, List.setIfInBounds_toArray, List.set_cons_zero, List.set_cons_succ]
  refine alw_take (i := 39) (v := .int .u8 77) rfl (by kernel_rfl) (by kernel_rfl) (fun _ _ _ h => h) (.inl ⟨by rfl, fun W hW => exec_load1 rfl rfl (by kernel_rfl) (bs_last hW.2.2.2.1)⟩) hS2 ?_
  simp only [Act.put, List.setIfInBounds_toArray, List.set_cons_zero, List.set_cons_succ]
  refine alw_take (i := 40) (v := .bool false) rfl (by kernel_rfl) (by kernel_rfl) (fun _ _ _ h => h) (.inl ⟨by rfl, fun W hW => by go_simp⟩) hS2 ?_
  simp only [Act.put, List.setIfInBounds_toArray, List.set_cons_zero, List.set_cons_succ]
  refine alw_take (i := 41) (v := .bool false) rfl (by kernel_rfl) (by kernel_rfl) (fun _ _ _ h => h) (.inl ⟨by rfl, fun W hW => by go_simp⟩) hS2 ?_
  simp only [Act.put, List.setIfInBounds_toArray, List.set_cons_zero, List.set_cons_succ]
  refine alw_done (by kernel_rfl) ?_
  have ht810 := (Turn.refl nowhere w8).drew.trans (ht9.trans ht10 fun _ _ e => e) fun _ _ e => e
  have HT10 := Lib.hid (HT8.out.trans ht810 fun _ _ e => e)
  have HB10 := Lib.hid (HT68.out.trans ht810 fun _ _ e => e)
  have HX := Lib.hid (Held1.of (Own.below HO10.out (ht810.below (Nat.le_refl _) fun _ _ e => e) (Nat.le_refl _)))
  have HNX := Lib.hid (hS2.2.1.2.1)
  have H9e := Lib.hid (bs_front hS2.2.2.2.1)
  have H8e := Lib.hid hS2.2.2.2.2
  have HLW := Lib.hid (Nat.lt_of_lt_of_le (Blk.lt HF6.out) (Nat.le_refl _))
  clear hS0 hS1 hS2 ht9 ht10 ht810 H8 H9' HF0 HF1 HF3 HF7 HO10 HC HD HP HQ
  refine NoPanic.normal ?_
  go_wp2_with fail
  go_loopg [14] n10 (fun gk i wr => ∃ k : Nat, k + gk = n10 ∧ i = .int .i64 (k : Int) ∧ Held1 wr w6.heap.size (.slice A10 n10 c10) n10 ∧ Below w6.heap.size w10 wr)
  case atStart => exact ⟨0, by omega, rfl, HX.out, Below.refl _ _⟩
  case round =>
    obtain ⟨k, hkl, rfl, hx, hbe⟩ := hrel
    have HKL := Lib.hid hkl
    have HXr := Lib.hid hx
    have HBE := Lib.hid hbe
    clear hkl hx hbe
    have z0 : (0 : Int) ≤ (k : Int) := by omega
    by_cases hlt : k < n10
    · have y1 : (k : Int) < (n10 : Int) := by omega
      have y3 : (n10 : Int) ≤ 9223372036854775807 := by have := HNX.out; unfold maxLen at this; omega
      obtain ⟨g, rfl, hg, hnc, hcell⟩ := HXr.out.some (by omega)
      obtain ⟨⟨v, hv⟩, hf, hset⟩ := hcell k hlt
      have HSET := Lib.hid hset
      have HG := Lib.hid hg
      have HLT := Lib.hid hlt
      clear hset hg hnc hcell
      go_upto_region 11 with fail
      refine wp_region_lit ?_
      refine wpList_run (v := .slice (some ⟨g, 0, none⟩) n10 c10) rfl (exec_move rfl rfl) ?_
      simp only [Act.put, List.setIfInBounds_toArray, List.set_cons_zero, List.set_cons_succ]
      refine wpList_run (v := .int .i64 (k : Int)) rfl (exec_move rfl rfl) ?_
      simp only [Act.put, List.setIfInBounds_toArray, List.set_cons_zero, List.set_cons_succ]
      refine wpList_run (v := .pointer (some ⟨g, k, none⟩)) (w' := wr) rfl (gx_iaddr (off := 0) (n := n10) (c := c10) (i := k) (sz := 1) (k := .i64) rfl rfl rfl Tryz.underlying22 size_u8 hlt (by omega)) ?_
      simp only [Act.put, List.setIfInBounds_toArray, List.set_cons_zero, List.set_cons_succ]
      clear hlt
      go_wp2_with fail
      go_roundg (gk - 1)
      case measure => have := HKL.out; have := HLT.out; omega
      case rel => exact ⟨k + 1, by have := HKL.out; have := HLT.out; omega, by go_num, HSET.out _, HBE.out.setCell (p := ⟨g, k, none⟩) HG.out _⟩
    · have y1 : ¬ ((k : Int) < (n10 : Int)) := by omega
      have y2 : decide (k < n10) = false := decide_eq_false hlt
      have hb910 : Below w6.heap.size w6 wr := (HB10.out.below (Nat.le_refl _) fun _ _ e => e).trans HBE.out
      have HFIN := Lib.hid ((HT6.out.below (Nat.le_refl _) fun _ _ e => e).trans (hb910.mono HT6.out.size))
      have h9w : Bs wr (some ⟨g9, o9, none⟩) len bs := bs_below (bs_front H9.out) hb910
      have H9w := Lib.hid h9w
      have H8w := Lib.hid (bs_below H8s.out hb910)
      clear hlt hb910 h9w
      go_upto_region 12 with fail
      clear y1 y2
      refine wp_region_lit ?_
      refine wpList_run (v := .slice (some ⟨g9, o9, none⟩) len c9) rfl (exec_move rfl rfl) ?_
      simp only [Act.put, List.setIfInBounds_toArray, List.set_cons_zero, List.set_cons_succ]
      refine wpList_run (v := strV bs) (w' := wr) rfl (exec_strBs rfl rfl H9w.out) ?_
      simp only [Act.put, List.setIfInBounds_toArray, List.set_cons_zero, List.set_cons_succ]
      refine wpList_run (v := .slice A8 n8 c8) rfl (exec_move rfl rfl) ?_
      simp only [Act.put, List.setIfInBounds_toArray, List.set_cons_zero, List.set_cons_succ]
      refine wpList_run (v := strV bs) (w' := wr) rfl (exec_strBs rfl rfl H8w.out) ?_
      simp only [Act.put, List.setIfInBounds_toArray, List.set_cons_zero, List.set_cons_succ]
      refine wpList_run (v := .bool true) (w' := wr) rfl (exec_sself rfl rfl rfl) ?_
      simp only [Act.put, List.setIfInBounds_toArray, List.set_cons_zero, List.set_cons_succ]
      go_wp2_with fail
      go_ret
      exact ⟨rfl, HFIN.out⟩
end Go.Proofs.YtgdlidjjogoiaaaGreatDoor
