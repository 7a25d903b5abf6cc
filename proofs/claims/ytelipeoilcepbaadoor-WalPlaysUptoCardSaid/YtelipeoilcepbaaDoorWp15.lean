/-
  Texts in one file: WlQ. Conditions: the tables and the errors read as the program's text lays them.
-/
import Derived.Test.YtelipeoilcepbaaDoorWp0
import Derived.Test.YtelipeoilcepbaaDoorWp14
namespace Go.Proofs.YtelipeoilcepbaaDoor
open Go.RowKit
open Wl (B8)
set_option linter.unusedVariables false
set_option linter.unusedSimpArgs false
set_option maxRecDepth 20000
def hdA (q a f : Nat) (b : Bool) : Array Value := #[.int .i64 (q : Int), .int .i64 (a : Int), .int .i64 (f : Int), .bool b]
theorem hdA_one (q a f : Nat) (b : Bool) : ∀ v ∈ (hdA q a f b).toList, v.oneCell' = true := fun v hv => by
  simp [hdA] at hv; rcases hv with rfl | rfl | rfl | rfl <;> rfl
theorem size_hdr : (Tryd.prog.info? 62).map (·.size) = some 4 := by kernel_rfl
theorem zero_hdr (w : World) : (zeroValue 62).run Tryd.prog w = .ok (.agg (hdA 0 0 0 false)) w := by kernel_rfl
theorem build_hd0 (W : World) : (Instr.build 62 #[]).run Tryd.prog W = .ok (.agg (hdA 0 0 0 false)) W := by kernel_rfl
theorem build_hd (a b c : Int) (d : Bool) (W : World) : (Instr.build 62 #[(0, .int .i64 a), (1, .int .i64 b), (2, .int .i64 c), (3, .bool d)]).run Tryd.prog W = .ok (.agg #[.int .i64 a, .int .i64 b, .int .i64 c, .bool d]) W := by kernel_rfl
theorem box_hdr (q a f : Nat) (b : Bool) (w : World) : (Instr.box 62 (.agg (hdA q a f b))).run Tryd.prog w = .ok (.pointer (some ⟨w.heap.size, 0, none⟩)) (w.alloc (.cells (hdA q a f b) 62)) := by
  simp [Instr.box, newVar, newRow, Result.andThen, Value.cells]
def HeaderP (w : World) (on : Bool) (D : Wl.Disk) (q : Nat) (r : Ending) (w' : World) : Prop :=
  Turn nowhere w w' ∧ ((on = false ∧ r = .returned (.tuple #[.agg (hdA 0 0 0 false), .int .i64 0, .int .i64 2])) ∨
    (on = true ∧ ∃ b : Bool, (b = true ↔ Wl.Hw Crc.sumN D q) ∧ r = .returned (.tuple #[.agg (hdA q (Wl.stampOf D q).age (Wl.stampOf D q).no b), .int .i64 ((Wl.ages D q : Nat) : Int), .int .i64 0])))
set_option maxRecDepth 20000 in
set_option maxHeartbeats 4000000 in
theorem header_walk {w : World} {p : Nat} {F : Nat → Prop} {s : AP} {K : Nat} (h : PlantAt w p F s K) (htab : Tab w) (i : Nat) (d : AD) (hd : s.ds[i]? = some d) (P : Nat) (hP : (P : Int) < d.n) :
    Calls Tryd.prog 56 #[.agg (dskA p i), .int .i64 (P : Int)] w fun r w' => HeaderP w s.on (dkD d) P r w' := by
  have HPL := Lib.hid h
  have HTAB := Lib.hid htab
  have HD := Lib.hid hd
  have HPP := Lib.hid hP
  have HW := Lib.hid (dkD_whole d)
  have yP : P ≤ 65536 := by have := h.dn hd; omega
  have hi4 := h.il hd
  have yi : (i : Int) < 4 := by omega
  obtain ⟨D, hDD⟩ : ∃ D, D = dkD d := ⟨_, rfl⟩
  rw [← hDD] at HW ⊢
  have HDD := Lib.hid hDD
  have HB0 := Lib.hid (Wl.stamp_lt D P)
  have HST := Lib.hid (show stB (D P) = Wl.stampOf D P by rw [← catB_one D P]; exact stB_cat HW.out P (by omega))
  have HTX := Lib.hid (show tagsOk (Wl.stampOf D P) (D P) (2 * 1) ↔ Wl.Tagged D P 1 (Wl.stampOf D P) by rw [← catB_one D P]; exact tags_cat HW.out P 1 _)
  have HPC := Lib.hid (show pieces (D P) (2 * 1) = Wl.textAt D P 1 by rw [← catB_one D P]; exact pieces_cat HW.out P 1)
  have HTG := Lib.hid (show (halfB (D P) 1).take 12 = Wl.tagAt D P 1 by
    have := half_cat HW.out P 1 0 1 (by omega) (by omega)
    rw [catB_one] at this
    unfold Wl.tagAt
    rw [show halfB (D P) 1 = Wl.halfAt D P 1 from this])
  have HTL := Lib.hid (show (Wl.tagAt D P 1).length = 12 by
    unfold Wl.tagAt
    rw [List.length_take, Wl.half_len HW.out P (by omega)]; rfl)
  have HAG := Lib.hid (show Wl.ages D P = max (Wl.stampOf D P).age (Wl.tst (Wl.tagAt D P 1)).age from rfl)
  have HHW := Lib.hid (show Wl.Hw Crc.sumN D P ↔ Wl.Tagged D P 1 (Wl.stampOf D P) ∧ (Wl.stampOf D P).cost = 0 ∧ (Wl.stampOf D P).sum = Crc.sumN (Wl.textAt D P 1) from Iff.rfl)
  obtain ⟨st, hst⟩ : ∃ st, st = Wl.stampOf D P := ⟨_, rfl⟩
  obtain ⟨tg, htg⟩ : ∃ tg, tg = Wl.tagAt D P 1 := ⟨_, rfl⟩
  obtain ⟨tx, htx⟩ : ∃ tx, tx = Wl.textAt D P 1 := ⟨_, rfl⟩
  rw [← hst] at HB0 HST HTX HAG HHW
  rw [← htg] at HTG HTL HAG
  rw [← htx] at HPC HHW
  have hb0 := HB0.out
  have HSO := Lib.hid (show StOk st from ⟨by have := hb0.1; omega, by have := hb0.2.1; omega, by omega, by have := hb0.2.2.2; omega⟩)
  have HSTE := Lib.hid hst
  clear h hd hP hDD hst hi4 hb0 htg htx htab
  go_enter Tryd.func56, Tryd.ntmps56
  go_upto_region 0 with fail
  refine wp_region_lit ?_
  refine wpList_run (v := .pointer (some ⟨(w).heap.size, 0, none⟩)) (w' := (w).alloc (.cells (dskA p i) 60)) (wanted_none rfl) (gx_box rfl rfl (box_dsk p i _)) ?_;simp only [zz];refine wpList_run (v := .pointer (some ⟨((w).alloc (.cells (dskA p i) 60)).heap.size, 0, none⟩)) (w' := ((w).alloc (.cells (dskA p i) 60)).alloc (.cells (hdA 0 0 0 false) 62)) (wanted_none rfl) (gx_alloc rfl (zero_hdr _)) ?_;simp only [zz];refine nR (.int .i64 0) (gx_assign rfl rfl) ?_;simp only [zz];refine nR (.int .i64 0) (gx_assign rfl rfl) ?_;simp only [zz]
  have hb_k := (Blk.new (w) 60 (dskA p i)).alloc (.cells (hdA 0 0 0 false) 62)
  have hb_r := Blk.new ((w).alloc (.cells (dskA p i) 60)) 62 (hdA 0 0 0 false)
  have ht_ := ((Turn.refl nowhere (w)).alloc (.cells (dskA p i) 60)).alloc (.cells (hdA 0 0 0 false) 62)
  obtain ⟨n0_, hn0_⟩ : ∃ n, n = (w).heap.size := ⟨_, rfl⟩
  have hz_k : (w).heap.size = n0_ + 0 := by rw [hn0_]; simp
  have hz_r : ((w).alloc (.cells (dskA p i) 60)).heap.size = n0_ + 1 := by rw [hn0_]; simp
  obtain ⟨r, hg_⟩ : ∃ g, g = ((w).alloc (.cells (dskA p i) 60)).heap.size := ⟨_, rfl⟩
  rw [← hg_] at hb_r hz_r ⊢
  clear hg_
  obtain ⟨k, hg_⟩ : ∃ g, g = (w).heap.size := ⟨_, rfl⟩
  rw [← hg_] at hb_k hz_k ⊢
  clear hg_
  generalize ((w).alloc (.cells (dskA p i) 60)).alloc (.cells (hdA 0 0 0 false) 62) = w1 at *
  have HT1 := Lib.hid ht_
  clear ht_
  have HBk := Lib.hid hb_k
  have HLk := Lib.hid (show (w).heap.size ≤ k from by omega)
  clear hb_k
  have HBr := Lib.hid hb_r
  have HLr := Lib.hid (show (w).heap.size ≤ r from by omega)
  clear hb_r
  have HNkr := Lib.hid (show k ≠ r from by omega)
  clear hn0_ hz_k hz_r
  clear n0_
  go_upto_region 1 with fail
  refine wp_region_lit ?_
  refine nR (.pointer (some ⟨k, 0, none⟩)) (exec_field (off := 0) (d := 0) rfl rfl (by kernel_rfl)) ?_;simp only [zz];refine nR (.pointer (some ⟨p, 0, none⟩)) (exec_load1 rfl rfl (by kernel_rfl) (HBk.out.cell 0)) ?_;simp only [zz];refine nR (.pointer (some ⟨k, 1, none⟩)) (exec_field (off := 0) (d := 1) rfl rfl (by kernel_rfl)) ?_;simp only [zz];refine nR (.int .i64 (i : Int)) (exec_load1 rfl rfl (by kernel_rfl) (HBk.out.cell 1)) ?_;simp only [zz];refine nR (.int .i64 (P : Int)) (exec_move rfl rfl) ?_;simp only [zz]
  cases hon : s.on
  · refine wpList_op rfl fun K9 HK9 => ?_
    go_wp2_with fail
    refine (read_off (HPL.out.turn HT1.out fun _ _ e => e) i hon P).mono ?_
    rintro e w1 ⟨rfl, rfl⟩
    refine HK9.out _ _ ?_
    clear HK9
    try simp only [zz]
    refine nR (.tuple #[.slice none 0 0, .int .i64 2]) (exec_move rfl rfl) ?_;simp only [zz];refine nR (.slice none 0 0) (ix_extract rfl rfl rfl) ?_;simp only [zz];refine nR (.int .i64 2) (ix_extract rfl rfl rfl) ?_;simp only [zz];refine nR (.slice none 0 0) (gx_assign rfl rfl) ?_;simp only [zz];refine nR (.int .i64 2) (gx_assign rfl rfl) ?_;simp only [zz]
    go_upto_region 2 with fail
    refine wp_region_lit ?_
    refine nR (.int .i64 2) (exec_move rfl rfl) ?_;simp only [zz];refine nR (.bool true) (ix_neq rfl rfl rfl (by decide)) ?_;simp only [zz]
    go_upto_region 3 with fail
    refine wp_region_lit ?_
    refine nR (.agg (hdA 0 0 0 false)) (gx_build0 rfl (build_hd0 _)) ?_;simp only [zz];refine nR (.int .i64 2) (exec_move rfl rfl) ?_;simp only [zz]
    refine wpList_store_row (wanted_none rfl) 62 (.tmp 4) (.tmp 26) rfl (hdA 0 0 0 false) HBr.out rfl rfl (rfl) (by rw [size_hdr] <;> rfl) (hdA_one _ _ _ _) ?_
    intro wz hb_ ht_
    have HBz := Lib.hid hb_
    have HTz := Lib.hid ht_
    clear hb_ ht_
    simp only [zz];refine nR (.int .i64 0) (gx_assign rfl rfl) ?_;simp only [zz];refine nR (.int .i64 2) (gx_assign rfl rfl) ?_;simp only [zz]
    go_wp2_with fail
    refine bodyPost_ret (v := .tuple #[.agg (hdA 0 0 0 false), .int .i64 0, .int .i64 2]) (ret_cell3 rfl _ _ r 62 _ _ rfl rfl rfl HBz.out Tryd.underlying62 rfl (by rw [size_hdr]; rfl)) rfl ?_
    exact ⟨HT1.out.trans HTz.out fun k hk e => by have := HLr.out; have e : k = r := e; omega, .inl ⟨hon, rfl⟩⟩
  · refine wpList_op rfl fun K9 HK9 => ?_
    go_wp2_with fail
    refine (read_on (HPL.out.turn HT1.out fun _ _ e => e) i d HD.out hon P HPP.out).mono ?_
    rintro e w2 ⟨R, rfl, -, hbs, ht⟩
    refine HK9.out _ _ ?_
    clear HK9
    try simp only [zz]
    rw [← HDD.out] at hbs
    have HBS2 := Lib.hid hbs
    have HT2 := Lib.hid (HT1.out.trans ht fun _ _ e => e)
    have HBr2 := Lib.hid (HBr.out.turn ht fun e => e)
    have HON := Lib.hid hon
    clear ht hbs HT1 HBk HBr hon
    refine nR (.tuple #[.slice (some ⟨R, 0, none⟩) 64 64, .int .i64 0]) (exec_move rfl rfl) ?_;simp only [zz];refine nR (.slice (some ⟨R, 0, none⟩) 64 64) (ix_extract rfl rfl rfl) ?_;simp only [zz];refine nR (.int .i64 0) (ix_extract rfl rfl rfl) ?_;simp only [zz];refine nR (.slice (some ⟨R, 0, none⟩) 64 64) (gx_assign rfl rfl) ?_;simp only [zz];refine nR (.int .i64 0) (gx_assign rfl rfl) ?_;simp only [zz]
    go_upto_region 2 with fail
    refine wp_region_lit ?_
    refine nR (.int .i64 0) (exec_move rfl rfl) ?_;simp only [zz];refine nR (.bool false) (ix_neq rfl rfl rfl (by decide)) ?_;simp only [zz]
    go_upto_region 4 with fail
    refine wp_region_lit ?_
    refine nR (.slice (some ⟨R, 0, none⟩) 64 64) (exec_move rfl rfl) ?_;simp only [zz]
    refine wpList_op rfl fun K9 HK9 => ?_
    go_wp2_with fail
    refine (stampOf_walk w2 _ 64 64 (D P) HBS2.out (by omega) (by omega) (by omega)).mono ?_
    rintro e w3 ⟨rfl, ht⟩
    refine HK9.out _ _ ?_
    clear HK9
    try simp only [zz]
    rw [HST.out]
    have HBS3 := Lib.hid (HBS2.out.still ht)
    have HT3 := Lib.hid (HT2.out.trans ht fun _ _ e => e)
    have HBr3 := Lib.hid (HBr2.out.turn ht fun e => e)
    clear ht HBS2 HT2 HBr2
    refine wpList_run (v := .pointer (some ⟨w3.heap.size, 0, none⟩)) (w' := w3.alloc (.cells (stA ⟨0, 0, 0, 0⟩) 67)) (wanted_none rfl) (gx_alloc rfl (zero_st _)) ?_;simp only [zz]
    have hb_ := Blk.new w3 67 (stA ⟨0, 0, 0, 0⟩)
    have ht_ := (Turn.refl nowhere w3).alloc (.cells (stA ⟨0, 0, 0, 0⟩) 67)
    obtain ⟨q, hg_⟩ : ∃ g, g = w3.heap.size := ⟨_, rfl⟩
    rw [← hg_] at hb_ ⊢
    have HLq := Lib.hid (show w3.heap.size ≤ q from by omega)
    clear hg_
    generalize w3.alloc (.cells (stA ⟨0, 0, 0, 0⟩) 67) = w4 at *
    have HBq := Lib.hid hb_
    have HT4 := Lib.hid ht_
    clear hb_ ht_
    refine wpList_store_row (wanted_none rfl) 67 (.tmp 9) (.tmp 29) rfl (stA st) HBq.out rfl rfl (rfl) (by rw [size_st] <;> rfl) (stA_one _) ?_
    intro w5 hb_ ht_
    have HBq5 := Lib.hid hb_
    have HT5 := Lib.hid ht_
    clear hb_ ht_
    simp only [zz]
    have HT35 := Lib.hid (HT4.out.trans HT5.out fun k hk e => by have := HLq.out; have e : k = q := e; omega)
    have HBS5 := Lib.hid (HBS3.out.still HT35.out)
    have HTw5 := Lib.hid (HT3.out.trans HT35.out fun _ _ e => e)
    have HBr5 := Lib.hid (HBr3.out.turn HT35.out fun e => e)
    have HNrq := Lib.hid (show q ≠ r from by have := HBr3.out.lt; have := HLq.out; omega)
    clear HT4 HT5 HT35 HBS3 HT3 HBr3 HBq HLq
    go_upto_region 5 with fail
    refine wp_region_lit ?_
    refine nR (.agg (stA st)) (gx_loads rfl rfl (blk_range HBq5.out) Tryd.underlying67 rfl (by rw [size_st]; rfl)) ?_;simp only [zz];refine nR (.slice (some ⟨R, 0, none⟩) 64 64) (exec_move rfl rfl) ?_;simp only [zz]
    refine wpList_op (wanted_none rfl) fun K9 HK9 => ?_
    go_wp2_with fail
    refine (text_walk w5 st _ 1 64 (D P) HSO.out HBS5.out (by omega) (by omega)).mono ?_
    rintro e w6 ⟨ht, hcase⟩
    have HT6 := Lib.hid (HTw5.out.trans ht fun _ _ e => e)
    have HBS6 := Lib.hid (HBS5.out.still ht)
    have HBr6 := Lib.hid (HBr5.out.turn ht fun e => e)
    have HBq6 := Lib.hid (HBq5.out.turn ht fun e => e)
    clear ht HBr5 HBq5 HBS5 HTw5
    rw [HTX.out, HPC.out] at hcase
    rcases hcase with ⟨htgd, A9, c9, rfl, hown⟩ | ⟨hnt, rfl⟩
    · have HOW6 := Lib.hid hown.bs.1
      have HTGD := Lib.hid htgd
      clear hown htgd
      refine HK9.out _ _ ?_
      clear HK9
      try simp only [zz]
      refine nR (.tuple #[.slice A9 (40 * 1) c9, .bool true]) (exec_move rfl rfl) ?_;simp only [zz];refine nR (.slice A9 (40 * 1) c9) (ix_extract rfl rfl rfl) ?_;simp only [zz];refine nR (.bool true) (ix_extract rfl rfl rfl) ?_;simp only [zz];refine nR (.slice A9 (40 * 1) c9) (gx_assign rfl rfl) ?_;simp only [zz];refine nR (.bool true) (gx_assign rfl rfl) ?_;simp only [zz]
      go_upto_region 6 with fail
      refine wp_region_lit ?_
      refine nR (.slice (some ⟨R, 0, none⟩) 64 64) (exec_move rfl rfl) ?_;simp only [zz]
      refine wpList_op rfl fun K9 HK9 => ?_
      go_wp2_with fail
      refine (cutB_walk w6 _ 64 64 (D P) 1 HBS6.out (by omega) (by omega) (by omega)).mono ?_
      rintro e w7 ⟨A7, rfl, -, ht⟩
      refine HK9.out _ _ ?_
      clear HK9
      try simp only [zz]
      rw [HTG.out]
      have HT7 := Lib.hid (HT6.out.trans ht fun _ _ e => e)
      have HBr7 := Lib.hid (HBr6.out.turn ht fun e => e)
      have HBq7 := Lib.hid (HBq6.out.turn ht fun e => e)
      have HOW7 := Lib.hid (HOW6.out.still ht)
      clear ht HT6 HBr6 HBq6 HBS6
      refine nR (.tuple #[.agg (byteCells tg), .slice A7 20 20]) (exec_move rfl rfl) ?_;simp only [zz];refine nR (.agg (byteCells tg)) (ix_extract rfl rfl rfl) ?_;simp only [zz];refine nR (.slice A7 20 20) (ix_extract rfl rfl rfl) ?_;simp only [zz];refine wpList_run (v := .pointer (some ⟨w7.heap.size, 0, none⟩)) (w' := w7.alloc (.cells (byteCells (List.replicate 12 0)) 95)) (wanted_none rfl) (gx_alloc rfl (zero_tag _)) ?_;simp only [zz]
      have hb_ := Blk.new w7 95 (byteCells (List.replicate 12 0))
      have ht_ := (Turn.refl nowhere w7).alloc (.cells (byteCells (List.replicate 12 0)) 95)
      obtain ⟨u, hg_⟩ : ∃ g, g = w7.heap.size := ⟨_, rfl⟩
      rw [← hg_] at hb_ ⊢
      have HLu := Lib.hid (show w7.heap.size ≤ u from by omega)
      clear hg_
      generalize w7.alloc (.cells (byteCells (List.replicate 12 0)) 95) = w8 at *
      have HBu := Lib.hid hb_
      have HT8 := Lib.hid ht_
      clear hb_ ht_
      refine wpList_store_row (wanted_none rfl) 95 (.tmp 12) (.tmp 39) rfl (byteCells tg) HBu.out rfl rfl (by rw [bc_size, bc_size, HTL.out]; rfl) (by rw [size_tag, bc_size, HTL.out]) (bc_one _) ?_
      intro w9 hb_ ht_
      have HBu9 := Lib.hid hb_
      have HT9 := Lib.hid ht_
      clear hb_ ht_
      simp only [zz]
      have HT79 := Lib.hid (HT8.out.trans HT9.out fun k hk e => by have := HLu.out; have e : k = u := e; omega)
      have HTw9 := Lib.hid (HT7.out.trans HT79.out fun _ _ e => e)
      have HBr9 := Lib.hid (HBr7.out.turn HT79.out fun e => e)
      have HBq9 := Lib.hid (HBq7.out.turn HT79.out fun e => e)
      have HNru := Lib.hid (show u ≠ r from by have := HBr7.out.lt; have := HLu.out; omega)
      have HOW9 := Lib.hid (HOW7.out.still HT79.out)
      clear HT8 HT9 HT79 HT7 HBr7 HBq7 HBu
      refine nR (.slice A7 20 20) (gx_assign rfl rfl) ?_;simp only [zz]
      by_cases hc0 : st.cost = 0
      · go_upto_region 7 with fail
        refine wp_region_alw (fun W => Blk W q 67 (stA st)) (by kernel_rfl) ?_
        have hS0 : (fun W => Blk W q 67 (stA st)) w9.drew := HBq9.out.drew
        have HD7 := Lib.hid ((Turn.refl nowhere w9).drew)
        generalize w9.drew = wd at *
        refine alw_take (i := 0) (v := .bool true) rfl (by kernel_rfl) (by kernel_rfl) (fun _ _ _ h => h) (.inl ⟨by rfl, fun W hW => exec_move rfl rfl⟩) hS0 ?_
        simp only [zz]
        refine alw_take (i := 1) (v := .bool true) rfl (by kernel_rfl) (by kernel_rfl) (fun _ _ _ h => h) (.inl ⟨by rfl, fun W hW => exec_move rfl rfl⟩) hS0 ?_
        simp only [zz]
        refine alw_take (i := 2) (v := .pointer (some ⟨q, 2, none⟩)) rfl (by kernel_rfl) (by kernel_rfl) (fun _ _ _ h => h) (.inl ⟨by rfl, fun W hW => exec_field (off := 0) (d := 2) rfl rfl (by kernel_rfl)⟩) hS0 ?_
        simp only [zz]
        refine alw_take (i := 3) (v := .int .i64 (st.cost : Int)) rfl (by kernel_rfl) (by kernel_rfl) (fun _ _ _ h => h) (.inl ⟨by rfl, fun W hW => exec_load1 rfl rfl (by kernel_rfl) (hW.cell 2)⟩) hS0 ?_
        simp only [zz]
        refine alw_take (i := 4) (v := .bool true) rfl (by kernel_rfl) (by kernel_rfl) (fun _ _ _ h => h) (.inl ⟨by rfl, fun W hW => ix_eql rfl rfl rfl (decide_eq_true (by omega))⟩) hS0 ?_
        simp only [zz]
        refine alw_take (i := 5) (v := .bool true) rfl (by kernel_rfl) (by kernel_rfl) (fun _ _ _ h => h) (.inl ⟨by rfl, fun W hW => ix_pickT rfl rfl rfl⟩) hS0 ?_
        simp only [zz]
        refine alw_take (i := 6) (v := .bool true) rfl (by kernel_rfl) (by kernel_rfl) (fun _ _ _ h => h) (.inl ⟨by rfl, fun W hW => exec_move rfl rfl⟩) hS0 ?_
        simp only [zz]
        refine alw_take (i := 7) (v := .pointer (some ⟨q, 3, none⟩)) rfl (by kernel_rfl) (by kernel_rfl) (fun _ _ _ h => h) (.inl ⟨by rfl, fun W hW => exec_field (off := 0) (d := 3) rfl rfl (by kernel_rfl)⟩) hS0 ?_
        simp only [zz]
        refine alw_take (i := 8) (v := .int .i64 (st.sum : Int)) rfl (by kernel_rfl) (by kernel_rfl) (fun _ _ _ h => h) (.inl ⟨by rfl, fun W hW => exec_load1 rfl rfl (by kernel_rfl) (hW.cell 3)⟩) hS0 ?_
        simp only [zz]
        refine alw_take (i := 9) (v := .slice A9 (40 * 1) c9) rfl (by kernel_rfl) (by kernel_rfl) (fun _ _ _ h => h) (.inl ⟨by rfl, fun W hW => exec_move rfl rfl⟩) hS0 ?_
        simp only [zz]
        refine alw_step (i := 10) (by kernel_rfl) rfl rfl ?_
        intro K1 HK1
        go_wp2_with fail
        refine (sumOf_walk wd _ (40 * 1) c9 tx (HOW9.out.still HD7.out) (tab_still HTAB.out (HTw9.out.trans HD7.out fun _ _ e => e))).mono ?_
        rintro e we ⟨rfl, ht⟩
        have hS1 := hS0.turn ht (fun e => e)
        have HDe := Lib.hid (HD7.out.trans ht fun _ _ e => e)
        refine HK1.out _ _ ⟨hS0.turn ht (fun e => e), ?_⟩
        clear HK1
        try simp only [zz]
        refine alw_take (i := 11) (v := .bool (decide (st.sum = Crc.sumN tx))) rfl (by kernel_rfl) (by kernel_rfl) (fun _ _ _ h => h) (.inl ⟨by rfl, fun W hW => ix_eql rfl rfl rfl (by rw [Bool.eq_iff_iff]; simp only [decide_eq_true_eq]; omega)⟩) hS1 ?_
        simp only [zz]
        refine alw_take (i := 12) (v := .bool (decide (st.sum = Crc.sumN tx))) rfl (by kernel_rfl) (by kernel_rfl) (fun _ _ _ h => h) (.inl ⟨by rfl, fun W hW => ix_pickT rfl rfl rfl⟩) hS1 ?_
        simp only [zz]
        refine alw_take (i := 13) (v := .bool (decide (st.sum = Crc.sumN tx))) rfl (by kernel_rfl) (by kernel_rfl) (fun _ _ _ h => h) (.inl ⟨by rfl, fun W hW => gx_assign rfl rfl⟩) hS1 ?_
        simp only [zz]
        refine alw_done rfl ?_
        refine NoPanic.normal ?_
        clear hS0 hS1 ht
        try simp only [zz]
        have HBqe := Lib.hid (HBq9.out.turn HDe.out fun e => e)
        have HBue := Lib.hid (HBu9.out.turn HDe.out fun e => e)
        have HBre := Lib.hid (HBr9.out.turn HDe.out fun e => e)
        have HTwe := Lib.hid (HTw9.out.trans HDe.out fun _ _ e => e)
        clear HBq9 HBu9 HBr9 HTw9
        go_upto_region 8 with fail
        refine wp_region_alw (fun W => Blk W q 67 (stA st) ∧ Blk W u 95 (byteCells tg) ∧ ∃ cs, Blk W r 62 cs ∧ cs.size = 4) (by kernel_rfl) ?_
        have hS0 : (fun W => Blk W q 67 (stA st) ∧ Blk W u 95 (byteCells tg) ∧ ∃ cs, Blk W r 62 cs ∧ cs.size = 4) we.drew := ⟨HBqe.out.drew, HBue.out.drew, _, HBre.out.drew, rfl⟩
        have HDh := Lib.hid ((Turn.refl nowhere we).drew)
        generalize we.drew = wh at *
        refine alw_take (i := 0) (v := .int .i64 (P : Int)) rfl (by kernel_rfl) (by kernel_rfl) (fun _ _ _ h => h) (.inl ⟨by rfl, fun W hW => exec_move rfl rfl⟩) hS0 ?_
        simp only [zz]
        refine alw_take (i := 1) (v := .pointer (some ⟨q, 0, none⟩)) rfl (by kernel_rfl) (by kernel_rfl) (fun _ _ _ h => h) (.inl ⟨by rfl, fun W hW => exec_field (off := 0) (d := 0) rfl rfl (by kernel_rfl)⟩) hS0 ?_
        simp only [zz]
        refine alw_take (i := 2) (v := .int .i64 (st.age : Int)) rfl (by kernel_rfl) (by kernel_rfl) (fun _ _ _ h => h) (.inl ⟨by rfl, fun W hW => exec_load1 rfl rfl (by kernel_rfl) (hW.1.cell 0)⟩) hS0 ?_
        simp only [zz]
        refine alw_take (i := 3) (v := .pointer (some ⟨q, 1, none⟩)) rfl (by kernel_rfl) (by kernel_rfl) (fun _ _ _ h => h) (.inl ⟨by rfl, fun W hW => exec_field (off := 0) (d := 1) rfl rfl (by kernel_rfl)⟩) hS0 ?_
        simp only [zz]
        refine alw_take (i := 4) (v := .int .i64 (st.no : Int)) rfl (by kernel_rfl) (by kernel_rfl) (fun _ _ _ h => h) (.inl ⟨by rfl, fun W hW => exec_load1 rfl rfl (by kernel_rfl) (hW.1.cell 1)⟩) hS0 ?_
        simp only [zz]
        refine alw_take (i := 5) (v := .bool (decide (st.sum = Crc.sumN tx))) rfl (by kernel_rfl) (by kernel_rfl) (fun _ _ _ h => h) (.inl ⟨by rfl, fun W hW => exec_move rfl rfl⟩) hS0 ?_
        simp only [zz]
        refine alw_take (i := 6) (v := .agg (hdA P st.age st.no (decide (st.sum = Crc.sumN tx)))) rfl (by kernel_rfl) (by kernel_rfl) (fun _ _ _ h => h) (.inl ⟨by rfl, fun W hW => gx_build4 rfl rfl rfl rfl rfl (build_hd _ _ _ _ _)⟩) hS0 ?_
        simp only [zz]
        refine alw_take (i := 7) (v := .pointer (some ⟨q, 0, none⟩)) rfl (by kernel_rfl) (by kernel_rfl) (fun _ _ _ h => h) (.inl ⟨by rfl, fun W hW => exec_field (off := 0) (d := 0) rfl rfl (by kernel_rfl)⟩) hS0 ?_
        simp only [zz]
        refine alw_take (i := 8) (v := .int .i64 (st.age : Int)) rfl (by kernel_rfl) (by kernel_rfl) (fun _ _ _ h => h) (.inl ⟨by rfl, fun W hW => exec_load1 rfl rfl (by kernel_rfl) (hW.1.cell 0)⟩) hS0 ?_
        simp only [zz]
        refine alw_take (i := 9) (v := .agg (byteCells tg)) rfl (by kernel_rfl) (by kernel_rfl) (fun _ _ _ h => h) (.inl ⟨by rfl, fun W hW => gx_loads rfl rfl (blk_range hW.2.1) Tryd.underlying95 rfl (tag_sz HTL.out)⟩) hS0 ?_
        simp only [zz]
        refine alw_step (i := 10) (by kernel_rfl) rfl rfl ?_
        intro K1 HK1
        go_wp2_with fail
        refine (tst_walk wh tg HTL.out).mono ?_
        rintro e wi ⟨rfl, ht⟩
        have hS1 : Blk wi q 67 (stA st) ∧ Blk wi u 95 (byteCells tg) ∧ ∃ cs, Blk wi r 62 cs ∧ cs.size = 4 := ⟨hS0.1.turn ht fun e => e, hS0.2.1.turn ht fun e => e, hS0.2.2.imp fun _ h => ⟨h.1.turn ht fun e => e, h.2⟩⟩
        have HTi := Lib.hid ((HTwe.out.trans HDh.out fun _ _ e => e).trans ht fun _ _ e => e)
        refine HK1.out _ _ ⟨⟨hS0.1.turn ht fun e => e, hS0.2.1.turn ht fun e => e, hS0.2.2.imp fun _ h => ⟨h.1.turn ht fun e => e, h.2⟩⟩, ?_⟩
        clear HK1
        try simp only [zz]
        refine alw_take (i := 11) (v := .int .i64 ((Wl.tst tg).age : Int)) rfl (by kernel_rfl) (by kernel_rfl) (fun _ _ _ h => h) (.inl ⟨by rfl, fun W hW => exec_getFld rfl rfl (fld_age _ _)⟩) hS1 ?_
        simp only [zz]
        refine alw_take (i := 12) (v := .int .i64 ((Wl.ages D P : Nat) : Int)) rfl (by kernel_rfl) (by kernel_rfl) (fun _ _ _ h => h) (.inl ⟨by rfl, fun W hW => gx_max rfl rfl rfl rfl (by rw [HAG.out]; split <;> omega)⟩) hS1 ?_
        simp only [zz]
        refine alw_step (i := 13) (by kernel_rfl) rfl rfl ?_
        intro K1 HK1
        obtain ⟨hsq, hsu, cs, hsr, hsz⟩ := hS1
        refine wp_store_rowU 62 (.tmp 4) (.tmp 60) rfl (hdA P st.age st.no (decide (st.sum = Crc.sumN tx))) hsr rfl rfl (by rw [hsz]; rfl) (by rw [size_hdr]; rfl) (hdA_one _ _ _ _) ?_
        intro wj hbj htj
        have hS2 : Blk wj q 67 (stA st) ∧ Blk wj u 95 (byteCells tg) ∧ ∃ cs, Blk wj r 62 cs ∧ cs.size = 4 := ⟨hsq.turn (F := only r) htj (fun e => HNrq.out e), hsu.turn (F := only r) htj (fun e => HNru.out e), _, hbj, rfl⟩
        refine HK1.out _ _ ⟨hS2, ?_⟩
        clear HK1
        try simp only [zz]
        have HBj := Lib.hid hbj
        have HTj := Lib.hid (HTi.out.trans htj fun k hk e => by have := HLr.out; have e : k = r := e; omega)
        clear hbj htj hsq hsu hsr hsz
        refine alw_take (i := 14) (v := .int .i64 ((Wl.ages D P : Nat) : Int)) rfl (by kernel_rfl) (by kernel_rfl) (fun _ _ _ h => h) (.inl ⟨by rfl, fun W hW => gx_assign rfl rfl⟩) hS2 ?_
        simp only [zz]
        refine alw_take (i := 15) (v := .int .i64 0) rfl (by kernel_rfl) (by kernel_rfl) (fun _ _ _ h => h) (.inl ⟨by rfl, fun W hW => gx_assign rfl rfl⟩) hS2 ?_
        simp only [zz]
        refine alw_done rfl ?_
        refine NoPanic.normal ?_
        clear hS0 hS2
        try simp only [zz]
        go_wp2_with fail
        refine bodyPost_ret (v := .tuple #[.agg (hdA P st.age st.no (decide (st.sum = Crc.sumN tx))), .int .i64 ((Wl.ages D P : Nat) : Int), .int .i64 0]) (ret_cell3 rfl _ _ r 62 _ _ rfl rfl rfl HBj.out Tryd.underlying62 rfl (by rw [size_hdr]; rfl)) rfl ?_
        exact ⟨HTj.out, .inr ⟨HON.out, (decide (st.sum = Crc.sumN tx)), ⟨fun e => HHW.out.2 ⟨HTGD.out, hc0, of_decide_eq_true e⟩, fun e => decide_eq_true (HHW.out.1 e).2.2⟩, by rw [← HSTE.out]⟩⟩
      · go_upto_region 7 with fail
        refine wp_region_alw (fun W => Blk W q 67 (stA st)) (by kernel_rfl) ?_
        have hS0 : (fun W => Blk W q 67 (stA st)) w9.drew := HBq9.out.drew
        have HD7 := Lib.hid ((Turn.refl nowhere w9).drew)
        generalize w9.drew = wd at *
        refine alw_take (i := 0) (v := .bool true) rfl (by kernel_rfl) (by kernel_rfl) (fun _ _ _ h => h) (.inl ⟨by rfl, fun W hW => exec_move rfl rfl⟩) hS0 ?_
        simp only [zz]
        refine alw_take (i := 1) (v := .bool true) rfl (by kernel_rfl) (by kernel_rfl) (fun _ _ _ h => h) (.inl ⟨by rfl, fun W hW => exec_move rfl rfl⟩) hS0 ?_
        simp only [zz]
        refine alw_take (i := 2) (v := .pointer (some ⟨q, 2, none⟩)) rfl (by kernel_rfl) (by kernel_rfl) (fun _ _ _ h => h) (.inl ⟨by rfl, fun W hW => exec_field (off := 0) (d := 2) rfl rfl (by kernel_rfl)⟩) hS0 ?_
        simp only [zz]
        refine alw_take (i := 3) (v := .int .i64 (st.cost : Int)) rfl (by kernel_rfl) (by kernel_rfl) (fun _ _ _ h => h) (.inl ⟨by rfl, fun W hW => exec_load1 rfl rfl (by kernel_rfl) (hW.cell 2)⟩) hS0 ?_
        simp only [zz]
        refine alw_take (i := 4) (v := .bool false) rfl (by kernel_rfl) (by kernel_rfl) (fun _ _ _ h => h) (.inl ⟨by rfl, fun W hW => ix_eql rfl rfl rfl (decide_eq_false (by omega))⟩) hS0 ?_
        simp only [zz]
        refine alw_take (i := 5) (v := .bool false) rfl (by kernel_rfl) (by kernel_rfl) (fun _ _ _ h => h) (.inl ⟨by rfl, fun W hW => ix_pickT rfl rfl rfl⟩) hS0 ?_
        simp only [zz]
        refine alw_take (i := 6) (v := .bool false) rfl (by kernel_rfl) (by kernel_rfl) (fun _ _ _ h => h) (.inl ⟨by rfl, fun W hW => exec_move rfl rfl⟩) hS0 ?_
        simp only [zz]
        refine alw_take (i := 7) (v := undef) rfl (by kernel_rfl) (by kernel_rfl) (fun _ _ _ h => h) (.inr ⟨by rfl, rfl⟩) hS0 ?_
        simp only [zz]
        refine alw_take (i := 8) (v := undef) rfl (by kernel_rfl) (by kernel_rfl) (fun _ _ _ h => h) (.inr ⟨by rfl, rfl⟩) hS0 ?_
        simp only [zz]
        refine alw_take (i := 9) (v := undef) rfl (by kernel_rfl) (by kernel_rfl) (fun _ _ _ h => h) (.inr ⟨by rfl, rfl⟩) hS0 ?_
        simp only [zz]
        refine alw_take (i := 10) (v := undef) rfl (by kernel_rfl) (by kernel_rfl) (fun _ _ _ h => h) (.inr ⟨by rfl, rfl⟩) hS0 ?_
        simp only [zz]
        refine alw_take (i := 11) (v := undef) rfl (by kernel_rfl) (by kernel_rfl) (fun _ _ _ h => h) (.inr ⟨by rfl, rfl⟩) hS0 ?_
        simp only [zz]
        refine alw_take (i := 12) (v := .bool false) rfl (by kernel_rfl) (by kernel_rfl) (fun _ _ _ h => h) (.inl ⟨by rfl, fun W hW => ix_pickF rfl rfl rfl⟩) hS0 ?_
        simp only [zz]
        refine alw_take (i := 13) (v := .bool false) rfl (by kernel_rfl) (by kernel_rfl) (fun _ _ _ h => h) (.inl ⟨by rfl, fun W hW => gx_assign rfl rfl⟩) hS0 ?_
        simp only [zz]
        refine alw_done rfl ?_
        refine NoPanic.normal ?_
        clear hS0
        try simp only [zz]
        have HBqd := Lib.hid (HBq9.out.turn HD7.out fun e => e)
        have HBud := Lib.hid (HBu9.out.turn HD7.out fun e => e)
        have HBrd := Lib.hid (HBr9.out.turn HD7.out fun e => e)
        have HTwd := Lib.hid (HTw9.out.trans HD7.out fun _ _ e => e)
        clear HBq9 HBu9 HBr9 HTw9
        go_upto_region 8 with fail
        refine wp_region_alw (fun W => Blk W q 67 (stA st) ∧ Blk W u 95 (byteCells tg) ∧ ∃ cs, Blk W r 62 cs ∧ cs.size = 4) (by kernel_rfl) ?_
        have hS0 : (fun W => Blk W q 67 (stA st) ∧ Blk W u 95 (byteCells tg) ∧ ∃ cs, Blk W r 62 cs ∧ cs.size = 4) wd.drew := ⟨HBqd.out.drew, HBud.out.drew, _, HBrd.out.drew, rfl⟩
        have HDh := Lib.hid ((Turn.refl nowhere wd).drew)
        generalize wd.drew = wh at *
        refine alw_take (i := 0) (v := .int .i64 (P : Int)) rfl (by kernel_rfl) (by kernel_rfl) (fun _ _ _ h => h) (.inl ⟨by rfl, fun W hW => exec_move rfl rfl⟩) hS0 ?_
        simp only [zz]
        refine alw_take (i := 1) (v := .pointer (some ⟨q, 0, none⟩)) rfl (by kernel_rfl) (by kernel_rfl) (fun _ _ _ h => h) (.inl ⟨by rfl, fun W hW => exec_field (off := 0) (d := 0) rfl rfl (by kernel_rfl)⟩) hS0 ?_
        simp only [zz]
        refine alw_take (i := 2) (v := .int .i64 (st.age : Int)) rfl (by kernel_rfl) (by kernel_rfl) (fun _ _ _ h => h) (.inl ⟨by rfl, fun W hW => exec_load1 rfl rfl (by kernel_rfl) (hW.1.cell 0)⟩) hS0 ?_
        simp only [zz]
        refine alw_take (i := 3) (v := .pointer (some ⟨q, 1, none⟩)) rfl (by kernel_rfl) (by kernel_rfl) (fun _ _ _ h => h) (.inl ⟨by rfl, fun W hW => exec_field (off := 0) (d := 1) rfl rfl (by kernel_rfl)⟩) hS0 ?_
        simp only [zz]
        refine alw_take (i := 4) (v := .int .i64 (st.no : Int)) rfl (by kernel_rfl) (by kernel_rfl) (fun _ _ _ h => h) (.inl ⟨by rfl, fun W hW => exec_load1 rfl rfl (by kernel_rfl) (hW.1.cell 1)⟩) hS0 ?_
        simp only [zz]
        refine alw_take (i := 5) (v := .bool false) rfl (by kernel_rfl) (by kernel_rfl) (fun _ _ _ h => h) (.inl ⟨by rfl, fun W hW => exec_move rfl rfl⟩) hS0 ?_
        simp only [zz]
        refine alw_take (i := 6) (v := .agg (hdA P st.age st.no false)) rfl (by kernel_rfl) (by kernel_rfl) (fun _ _ _ h => h) (.inl ⟨by rfl, fun W hW => gx_build4 rfl rfl rfl rfl rfl (build_hd _ _ _ _ _)⟩) hS0 ?_
        simp only [zz]
        refine alw_take (i := 7) (v := .pointer (some ⟨q, 0, none⟩)) rfl (by kernel_rfl) (by kernel_rfl) (fun _ _ _ h => h) (.inl ⟨by rfl, fun W hW => exec_field (off := 0) (d := 0) rfl rfl (by kernel_rfl)⟩) hS0 ?_
        simp only [zz]
        refine alw_take (i := 8) (v := .int .i64 (st.age : Int)) rfl (by kernel_rfl) (by kernel_rfl) (fun _ _ _ h => h) (.inl ⟨by rfl, fun W hW => exec_load1 rfl rfl (by kernel_rfl) (hW.1.cell 0)⟩) hS0 ?_
        simp only [zz]
        refine alw_take (i := 9) (v := .agg (byteCells tg)) rfl (by kernel_rfl) (by kernel_rfl) (fun _ _ _ h => h) (.inl ⟨by rfl, fun W hW => gx_loads rfl rfl (blk_range hW.2.1) Tryd.underlying95 rfl (tag_sz HTL.out)⟩) hS0 ?_
        simp only [zz]
        refine alw_step (i := 10) (by kernel_rfl) rfl rfl ?_
        intro K1 HK1
        go_wp2_with fail
        refine (tst_walk wh tg HTL.out).mono ?_
        rintro e wi ⟨rfl, ht⟩
        have hS1 : Blk wi q 67 (stA st) ∧ Blk wi u 95 (byteCells tg) ∧ ∃ cs, Blk wi r 62 cs ∧ cs.size = 4 := ⟨hS0.1.turn ht fun e => e, hS0.2.1.turn ht fun e => e, hS0.2.2.imp fun _ h => ⟨h.1.turn ht fun e => e, h.2⟩⟩
        have HTi := Lib.hid ((HTwd.out.trans HDh.out fun _ _ e => e).trans ht fun _ _ e => e)
        refine HK1.out _ _ ⟨⟨hS0.1.turn ht fun e => e, hS0.2.1.turn ht fun e => e, hS0.2.2.imp fun _ h => ⟨h.1.turn ht fun e => e, h.2⟩⟩, ?_⟩
        clear HK1
        try simp only [zz]
        refine alw_take (i := 11) (v := .int .i64 ((Wl.tst tg).age : Int)) rfl (by kernel_rfl) (by kernel_rfl) (fun _ _ _ h => h) (.inl ⟨by rfl, fun W hW => exec_getFld rfl rfl (fld_age _ _)⟩) hS1 ?_
        simp only [zz]
        refine alw_take (i := 12) (v := .int .i64 ((Wl.ages D P : Nat) : Int)) rfl (by kernel_rfl) (by kernel_rfl) (fun _ _ _ h => h) (.inl ⟨by rfl, fun W hW => gx_max rfl rfl rfl rfl (by rw [HAG.out]; split <;> omega)⟩) hS1 ?_
        simp only [zz]
        refine alw_step (i := 13) (by kernel_rfl) rfl rfl ?_
        intro K1 HK1
        obtain ⟨hsq, hsu, cs, hsr, hsz⟩ := hS1
        refine wp_store_rowU 62 (.tmp 4) (.tmp 60) rfl (hdA P st.age st.no false) hsr rfl rfl (by rw [hsz]; rfl) (by rw [size_hdr]; rfl) (hdA_one _ _ _ _) ?_
        intro wj hbj htj
        have hS2 : Blk wj q 67 (stA st) ∧ Blk wj u 95 (byteCells tg) ∧ ∃ cs, Blk wj r 62 cs ∧ cs.size = 4 := ⟨hsq.turn (F := only r) htj (fun e => HNrq.out e), hsu.turn (F := only r) htj (fun e => HNru.out e), _, hbj, rfl⟩
        refine HK1.out _ _ ⟨hS2, ?_⟩
        clear HK1
        try simp only [zz]
        have HBj := Lib.hid hbj
        have HTj := Lib.hid (HTi.out.trans htj fun k hk e => by have := HLr.out; have e : k = r := e; omega)
        clear hbj htj hsq hsu hsr hsz
        refine alw_take (i := 14) (v := .int .i64 ((Wl.ages D P : Nat) : Int)) rfl (by kernel_rfl) (by kernel_rfl) (fun _ _ _ h => h) (.inl ⟨by rfl, fun W hW => gx_assign rfl rfl⟩) hS2 ?_
        simp only [zz]
        refine alw_take (i := 15) (v := .int .i64 0) rfl (by kernel_rfl) (by kernel_rfl) (fun _ _ _ h => h) (.inl ⟨by rfl, fun W hW => gx_assign rfl rfl⟩) hS2 ?_
        simp only [zz]
        refine alw_done rfl ?_
        refine NoPanic.normal ?_
        clear hS0 hS2
        try simp only [zz]
        go_wp2_with fail
        refine bodyPost_ret (v := .tuple #[.agg (hdA P st.age st.no false), .int .i64 ((Wl.ages D P : Nat) : Int), .int .i64 0]) (ret_cell3 rfl _ _ r 62 _ _ rfl rfl rfl HBj.out Tryd.underlying62 rfl (by rw [size_hdr]; rfl)) rfl ?_
        exact ⟨HTj.out, .inr ⟨HON.out, false, ⟨fun e => (by cases e), fun e => absurd (HHW.out.1 e).2.1 hc0⟩, by rw [← HSTE.out]⟩⟩
    · refine HK9.out _ _ ?_
      clear HK9
      try simp only [zz]
      refine nR (.tuple #[.slice none 0 0, .bool false]) (exec_move rfl rfl) ?_;simp only [zz];refine nR (.slice none 0 0) (ix_extract rfl rfl rfl) ?_;simp only [zz];refine nR (.bool false) (ix_extract rfl rfl rfl) ?_;simp only [zz];refine nR (.slice none 0 0) (gx_assign rfl rfl) ?_;simp only [zz];refine nR (.bool false) (gx_assign rfl rfl) ?_;simp only [zz]
      go_upto_region 6 with fail
      refine wp_region_lit ?_
      refine nR (.slice (some ⟨R, 0, none⟩) 64 64) (exec_move rfl rfl) ?_;simp only [zz]
      refine wpList_op rfl fun K9 HK9 => ?_
      go_wp2_with fail
      refine (cutB_walk w6 _ 64 64 (D P) 1 HBS6.out (by omega) (by omega) (by omega)).mono ?_
      rintro e w7 ⟨A7, rfl, -, ht⟩
      refine HK9.out _ _ ?_
      clear HK9
      try simp only [zz]
      rw [HTG.out]
      have HT7 := Lib.hid (HT6.out.trans ht fun _ _ e => e)
      have HBr7 := Lib.hid (HBr6.out.turn ht fun e => e)
      have HBq7 := Lib.hid (HBq6.out.turn ht fun e => e)
      clear ht HT6 HBr6 HBq6 HBS6
      refine nR (.tuple #[.agg (byteCells tg), .slice A7 20 20]) (exec_move rfl rfl) ?_;simp only [zz];refine nR (.agg (byteCells tg)) (ix_extract rfl rfl rfl) ?_;simp only [zz];refine nR (.slice A7 20 20) (ix_extract rfl rfl rfl) ?_;simp only [zz];refine wpList_run (v := .pointer (some ⟨w7.heap.size, 0, none⟩)) (w' := w7.alloc (.cells (byteCells (List.replicate 12 0)) 95)) (wanted_none rfl) (gx_alloc rfl (zero_tag _)) ?_;simp only [zz]
      have hb_ := Blk.new w7 95 (byteCells (List.replicate 12 0))
      have ht_ := (Turn.refl nowhere w7).alloc (.cells (byteCells (List.replicate 12 0)) 95)
      obtain ⟨u, hg_⟩ : ∃ g, g = w7.heap.size := ⟨_, rfl⟩
      rw [← hg_] at hb_ ⊢
      have HLu := Lib.hid (show w7.heap.size ≤ u from by omega)
      clear hg_
      generalize w7.alloc (.cells (byteCells (List.replicate 12 0)) 95) = w8 at *
      have HBu := Lib.hid hb_
      have HT8 := Lib.hid ht_
      clear hb_ ht_
      refine wpList_store_row (wanted_none rfl) 95 (.tmp 12) (.tmp 39) rfl (byteCells tg) HBu.out rfl rfl (by rw [bc_size, bc_size, HTL.out]; rfl) (by rw [size_tag, bc_size, HTL.out]) (bc_one _) ?_
      intro w9 hb_ ht_
      have HBu9 := Lib.hid hb_
      have HT9 := Lib.hid ht_
      clear hb_ ht_
      simp only [zz]
      have HT79 := Lib.hid (HT8.out.trans HT9.out fun k hk e => by have := HLu.out; have e : k = u := e; omega)
      have HTw9 := Lib.hid (HT7.out.trans HT79.out fun _ _ e => e)
      have HBr9 := Lib.hid (HBr7.out.turn HT79.out fun e => e)
      have HBq9 := Lib.hid (HBq7.out.turn HT79.out fun e => e)
      have HNru := Lib.hid (show u ≠ r from by have := HBr7.out.lt; have := HLu.out; omega)
      clear HT8 HT9 HT79 HT7 HBr7 HBq7 HBu
      refine nR (.slice A7 20 20) (gx_assign rfl rfl) ?_;simp only [zz]
      go_upto_region 7 with fail
      refine wp_region_alw (fun W => Blk W q 67 (stA st)) (by kernel_rfl) ?_
      have hS0 : (fun W => Blk W q 67 (stA st)) w9.drew := HBq9.out.drew
      have HD7 := Lib.hid ((Turn.refl nowhere w9).drew)
      generalize w9.drew = wd at *
      refine alw_take (i := 0) (v := .bool false) rfl (by kernel_rfl) (by kernel_rfl) (fun _ _ _ h => h) (.inl ⟨by rfl, fun W hW => exec_move rfl rfl⟩) hS0 ?_
      simp only [zz]
      refine alw_take (i := 1) (v := .bool false) rfl (by kernel_rfl) (by kernel_rfl) (fun _ _ _ h => h) (.inl ⟨by rfl, fun W hW => exec_move rfl rfl⟩) hS0 ?_
      simp only [zz]
      refine alw_take (i := 2) (v := undef) rfl (by kernel_rfl) (by kernel_rfl) (fun _ _ _ h => h) (.inr ⟨by rfl, rfl⟩) hS0 ?_
      simp only [zz]
      refine alw_take (i := 3) (v := undef) rfl (by kernel_rfl) (by kernel_rfl) (fun _ _ _ h => h) (.inr ⟨by rfl, rfl⟩) hS0 ?_
      simp only [zz]
      refine alw_take (i := 4) (v := undef) rfl (by kernel_rfl) (by kernel_rfl) (fun _ _ _ h => h) (.inr ⟨by rfl, rfl⟩) hS0 ?_
      simp only [zz]
      refine alw_take (i := 5) (v := .bool false) rfl (by kernel_rfl) (by kernel_rfl) (fun _ _ _ h => h) (.inl ⟨by rfl, fun W hW => ix_pickF rfl rfl rfl⟩) hS0 ?_
      simp only [zz]
      refine alw_take (i := 6) (v := .bool false) rfl (by kernel_rfl) (by kernel_rfl) (fun _ _ _ h => h) (.inl ⟨by rfl, fun W hW => exec_move rfl rfl⟩) hS0 ?_
      simp only [zz]
      refine alw_take (i := 7) (v := undef) rfl (by kernel_rfl) (by kernel_rfl) (fun _ _ _ h => h) (.inr ⟨by rfl, rfl⟩) hS0 ?_
      simp only [zz]
      refine alw_take (i := 8) (v := undef) rfl (by kernel_rfl) (by kernel_rfl) (fun _ _ _ h => h) (.inr ⟨by rfl, rfl⟩) hS0 ?_
      simp only [zz]
      refine alw_take (i := 9) (v := undef) rfl (by kernel_rfl) (by kernel_rfl) (fun _ _ _ h => h) (.inr ⟨by rfl, rfl⟩) hS0 ?_
      simp only [zz]
      refine alw_take (i := 10) (v := undef) rfl (by kernel_rfl) (by kernel_rfl) (fun _ _ _ h => h) (.inr ⟨by rfl, rfl⟩) hS0 ?_
      simp only [zz]
      refine alw_take (i := 11) (v := undef) rfl (by kernel_rfl) (by kernel_rfl) (fun _ _ _ h => h) (.inr ⟨by rfl, rfl⟩) hS0 ?_
      simp only [zz]
      refine alw_take (i := 12) (v := .bool false) rfl (by kernel_rfl) (by kernel_rfl) (fun _ _ _ h => h) (.inl ⟨by rfl, fun W hW => ix_pickF rfl rfl rfl⟩) hS0 ?_
      simp only [zz]
      refine alw_take (i := 13) (v := .bool false) rfl (by kernel_rfl) (by kernel_rfl) (fun _ _ _ h => h) (.inl ⟨by rfl, fun W hW => gx_assign rfl rfl⟩) hS0 ?_
      simp only [zz]
      refine alw_done rfl ?_
      refine NoPanic.normal ?_
      clear hS0
      try simp only [zz]
      have HBqd := Lib.hid (HBq9.out.turn HD7.out fun e => e)
      have HBud := Lib.hid (HBu9.out.turn HD7.out fun e => e)
      have HBrd := Lib.hid (HBr9.out.turn HD7.out fun e => e)
      have HTwd := Lib.hid (HTw9.out.trans HD7.out fun _ _ e => e)
      clear HBq9 HBu9 HBr9 HTw9
      go_upto_region 8 with fail
      refine wp_region_alw (fun W => Blk W q 67 (stA st) ∧ Blk W u 95 (byteCells tg) ∧ ∃ cs, Blk W r 62 cs ∧ cs.size = 4) (by kernel_rfl) ?_
      have hS0 : (fun W => Blk W q 67 (stA st) ∧ Blk W u 95 (byteCells tg) ∧ ∃ cs, Blk W r 62 cs ∧ cs.size = 4) wd.drew := ⟨HBqd.out.drew, HBud.out.drew, _, HBrd.out.drew, rfl⟩
      have HDh := Lib.hid ((Turn.refl nowhere wd).drew)
      generalize wd.drew = wh at *
      refine alw_take (i := 0) (v := .int .i64 (P : Int)) rfl (by kernel_rfl) (by kernel_rfl) (fun _ _ _ h => h) (.inl ⟨by rfl, fun W hW => exec_move rfl rfl⟩) hS0 ?_
      simp only [zz]
      refine alw_take (i := 1) (v := .pointer (some ⟨q, 0, none⟩)) rfl (by kernel_rfl) (by kernel_rfl) (fun _ _ _ h => h) (.inl ⟨by rfl, fun W hW => exec_field (off := 0) (d := 0) rfl rfl (by kernel_rfl)⟩) hS0 ?_
      simp only [zz]
      refine alw_take (i := 2) (v := .int .i64 (st.age : Int)) rfl (by kernel_rfl) (by kernel_rfl) (fun _ _ _ h => h) (.inl ⟨by rfl, fun W hW => exec_load1 rfl rfl (by kernel_rfl) (hW.1.cell 0)⟩) hS0 ?_
      simp only [zz]
      refine alw_take (i := 3) (v := .pointer (some ⟨q, 1, none⟩)) rfl (by kernel_rfl) (by kernel_rfl) (fun _ _ _ h => h) (.inl ⟨by rfl, fun W hW => exec_field (off := 0) (d := 1) rfl rfl (by kernel_rfl)⟩) hS0 ?_
      simp only [zz]
      refine alw_take (i := 4) (v := .int .i64 (st.no : Int)) rfl (by kernel_rfl) (by kernel_rfl) (fun _ _ _ h => h) (.inl ⟨by rfl, fun W hW => exec_load1 rfl rfl (by kernel_rfl) (hW.1.cell 1)⟩) hS0 ?_
      simp only [zz]
      refine alw_take (i := 5) (v := .bool false) rfl (by kernel_rfl) (by kernel_rfl) (fun _ _ _ h => h) (.inl ⟨by rfl, fun W hW => exec_move rfl rfl⟩) hS0 ?_
      simp only [zz]
      refine alw_take (i := 6) (v := .agg (hdA P st.age st.no false)) rfl (by kernel_rfl) (by kernel_rfl) (fun _ _ _ h => h) (.inl ⟨by rfl, fun W hW => gx_build4 rfl rfl rfl rfl rfl (build_hd _ _ _ _ _)⟩) hS0 ?_
      simp only [zz]
      refine alw_take (i := 7) (v := .pointer (some ⟨q, 0, none⟩)) rfl (by kernel_rfl) (by kernel_rfl) (fun _ _ _ h => h) (.inl ⟨by rfl, fun W hW => exec_field (off := 0) (d := 0) rfl rfl (by kernel_rfl)⟩) hS0 ?_
      simp only [zz]
      refine alw_take (i := 8) (v := .int .i64 (st.age : Int)) rfl (by kernel_rfl) (by kernel_rfl) (fun _ _ _ h => h) (.inl ⟨by rfl, fun W hW => exec_load1 rfl rfl (by kernel_rfl) (hW.1.cell 0)⟩) hS0 ?_
      simp only [zz]
      refine alw_take (i := 9) (v := .agg (byteCells tg)) rfl (by kernel_rfl) (by kernel_rfl) (fun _ _ _ h => h) (.inl ⟨by rfl, fun W hW => gx_loads rfl rfl (blk_range hW.2.1) Tryd.underlying95 rfl (tag_sz HTL.out)⟩) hS0 ?_
      simp only [zz]
      refine alw_step (i := 10) (by kernel_rfl) rfl rfl ?_
      intro K1 HK1
      go_wp2_with fail
      refine (tst_walk wh tg HTL.out).mono ?_
      rintro e wi ⟨rfl, ht⟩
      have hS1 : Blk wi q 67 (stA st) ∧ Blk wi u 95 (byteCells tg) ∧ ∃ cs, Blk wi r 62 cs ∧ cs.size = 4 := ⟨hS0.1.turn ht fun e => e, hS0.2.1.turn ht fun e => e, hS0.2.2.imp fun _ h => ⟨h.1.turn ht fun e => e, h.2⟩⟩
      have HTi := Lib.hid ((HTwd.out.trans HDh.out fun _ _ e => e).trans ht fun _ _ e => e)
      refine HK1.out _ _ ⟨⟨hS0.1.turn ht fun e => e, hS0.2.1.turn ht fun e => e, hS0.2.2.imp fun _ h => ⟨h.1.turn ht fun e => e, h.2⟩⟩, ?_⟩
      clear HK1
      try simp only [zz]
      refine alw_take (i := 11) (v := .int .i64 ((Wl.tst tg).age : Int)) rfl (by kernel_rfl) (by kernel_rfl) (fun _ _ _ h => h) (.inl ⟨by rfl, fun W hW => exec_getFld rfl rfl (fld_age _ _)⟩) hS1 ?_
      simp only [zz]
      refine alw_take (i := 12) (v := .int .i64 ((Wl.ages D P : Nat) : Int)) rfl (by kernel_rfl) (by kernel_rfl) (fun _ _ _ h => h) (.inl ⟨by rfl, fun W hW => gx_max rfl rfl rfl rfl (by rw [HAG.out]; split <;> omega)⟩) hS1 ?_
      simp only [zz]
      refine alw_step (i := 13) (by kernel_rfl) rfl rfl ?_
      intro K1 HK1
      obtain ⟨hsq, hsu, cs, hsr, hsz⟩ := hS1
      refine wp_store_rowU 62 (.tmp 4) (.tmp 60) rfl (hdA P st.age st.no false) hsr rfl rfl (by rw [hsz]; rfl) (by rw [size_hdr]; rfl) (hdA_one _ _ _ _) ?_
      intro wj hbj htj
      have hS2 : Blk wj q 67 (stA st) ∧ Blk wj u 95 (byteCells tg) ∧ ∃ cs, Blk wj r 62 cs ∧ cs.size = 4 := ⟨hsq.turn (F := only r) htj (fun e => HNrq.out e), hsu.turn (F := only r) htj (fun e => HNru.out e), _, hbj, rfl⟩
      refine HK1.out _ _ ⟨hS2, ?_⟩
      clear HK1
      try simp only [zz]
      have HBj := Lib.hid hbj
      have HTj := Lib.hid (HTi.out.trans htj fun k hk e => by have := HLr.out; have e : k = r := e; omega)
      clear hbj htj hsq hsu hsr hsz
      refine alw_take (i := 14) (v := .int .i64 ((Wl.ages D P : Nat) : Int)) rfl (by kernel_rfl) (by kernel_rfl) (fun _ _ _ h => h) (.inl ⟨by rfl, fun W hW => gx_assign rfl rfl⟩) hS2 ?_
      simp only [zz]
      refine alw_take (i := 15) (v := .int .i64 0) rfl (by kernel_rfl) (by kernel_rfl) (fun _ _ _ h => h) (.inl ⟨by rfl, fun W hW => gx_assign rfl rfl⟩) hS2 ?_
      simp only [zz]
      refine alw_done rfl ?_
      refine NoPanic.normal ?_
      clear hS0 hS2
      try simp only [zz]
      go_wp2_with fail
      refine bodyPost_ret (v := .tuple #[.agg (hdA P st.age st.no false), .int .i64 ((Wl.ages D P : Nat) : Int), .int .i64 0]) (ret_cell3 rfl _ _ r 62 _ _ rfl rfl rfl HBj.out Tryd.underlying62 rfl (by rw [size_hdr]; rfl)) rfl ?_
      exact ⟨HTj.out, .inr ⟨HON.out, false, ⟨fun e => (by cases e), fun e => absurd (HHW.out.1 e).1 hnt⟩, by rw [← HSTE.out]⟩⟩
end Go.Proofs.YtelipeoilcepbaaDoor
