/-
  Texts in one file: WlP. Conditions: the tables and the errors read as the program's text lays them.
-/
import Derived.Test.YtelipeoilcepbaaDoorWp0
import Derived.Test.YtelipeoilcepbaaDoorWp13
namespace Go.Proofs.YtelipeoilcepbaaDoor
open Go.RowKit
open Wl (B8)
set_option linter.unusedVariables false
set_option linter.unusedSimpArgs false
set_option maxRecDepth 20000
theorem read_on {w : World} {p : Nat} {F : Nat → Prop} {s : AP} {K : Nat} (h : PlantAt w p F s K) (i : Nat) (d : AD) (hd : s.ds[i]? = some d) (hon : s.on = true) (place : Nat) (hp : (place : Int) < d.n) :
    Calls Tryd.prog 61 #[.pointer (some ⟨p, 0, none⟩), .int .i64 (i : Int), .int .i64 (place : Int)] w fun e w' =>
      ∃ R, e = .returned (.tuple #[.slice (some ⟨R, 0, none⟩) 64 64, .int .i64 0]) ∧ w.heap.size ≤ R ∧ Bs w' (some ⟨R, 0, none⟩) 64 (dkD d place) ∧ Turn nowhere w w' := by
  refine (read_any h i d hd place hp).mono fun e w' ⟨h1, h2⟩ => ?_
  rcases h2 with ⟨_, R, h2, h3, h4⟩ | ⟨h2, _⟩
  · exact ⟨R, h2, h3, h4, h1⟩
  · rw [hon] at h2; cases h2
theorem read_off {w : World} {p : Nat} {F : Nat → Prop} {s : AP} {K : Nat} (h : PlantAt w p F s K) (i : Nat) (hoff : s.on = false) (place : Nat) :
    Calls Tryd.prog 61 #[.pointer (some ⟨p, 0, none⟩), .int .i64 (i : Int), .int .i64 (place : Int)] w fun e w' => e = .returned (.tuple #[.slice none 0 0, .int .i64 2]) ∧ w = w' :=
  read_bad h (i : Int) (place : Int) 2 (.inl ⟨by simp [refuseCode, hoff], .inl rfl⟩)
theorem PlantAt.dn {w : World} {p : Nat} {F : Nat → Prop} {s : AP} {K : Nat} (h : PlantAt w p F s K) {i : Nat} {d : AD} (hd : s.ds[i]? = some d) : 1 ≤ d.n ∧ d.n ≤ 65536 := by
  obtain ⟨db, cap, C, dv, h1, h2, _⟩ := h
  exact (h2.at_ i d hd).n0
theorem PlantAt.il {w : World} {p : Nat} {F : Nat → Prop} {s : AP} {K : Nat} (h : PlantAt w p F s K) {i : Nat} {d : AD} (hd : s.ds[i]? = some d) : i < 4 := by
  obtain ⟨db, cap, C, dv, h1, h2, h3, h4, h5, _⟩ := h
  have := (List.getElem?_eq_some_iff.1 hd).1
  omega
theorem grp_n0 {D : Wl.Disk} {E P : Nat} (h : (Wl.stampOf D P).cost = 0) : Wl.grp D E P = none := by unfold Wl.grp; rw [if_neg fun c => c.1 h]
theorem grp_nE {D : Wl.Disk} {E P : Nat} (h : E < P + (Wl.stampOf D P).cost) : Wl.grp D E P = none := by unfold Wl.grp; rw [if_neg fun c => by have := c.2.1; omega]
theorem grp_nT {D : Wl.Disk} {E P : Nat} (h : ¬ Wl.Tagged D P (Wl.stampOf D P).cost (Wl.stampOf D P)) : Wl.grp D E P = none := by unfold Wl.grp; rw [if_neg fun c => h c.2.2]
def GroupP (w : World) (on : Bool) (D : Wl.Disk) (E P : Nat) (r : Ending) (w' : World) : Prop :=
  Turn nowhere w w' ∧ ((on = false ∧ r = .returned (.tuple #[.agg (stA ⟨0, 0, 0, 0⟩), .slice none 0 0, .int .i64 2])) ∨
    (on = true ∧ Wl.grp D E P = none ∧ r = .returned (.tuple #[.agg (stA ⟨0, 0, 0, 0⟩), .slice none 0 0, .int .i64 0])) ∨
    (on = true ∧ ∃ s t A c, Wl.grp D E P = some (s, t) ∧ r = .returned (.tuple #[.agg (stA s), .slice A (40 * s.cost) c, .int .i64 0]) ∧ Own w' w.heap.size 5 (.slice A (40 * s.cost) c) t))
theorem own_only {w w' : World} {B r : Nat} {t : TypeId} {v : Value} {bs : B8} {cs : Array Value} (h : Own w B 5 v bs) (hr : Blk w r t cs) (ht : Turn (only r) w w') (hne : t ≠ 5) : Own w' B 5 v bs := by
  refine ⟨h.1, ?_⟩
  rcases h.2 with e | ⟨g, cap, cur, e, hb, hg, h3⟩
  · exact .inl e
  · refine .inr ⟨g, cap, cur, e, hb, ?_, h3⟩
    rw [ht.block g (Blk.lt (t := 5) (cs := cur) hg) fun e2 => Blk.ne_ hr (g' := g) (cs' := cur) hg hne (show g = r from e2).symm]
    exact hg
set_option maxRecDepth 20000 in
set_option maxHeartbeats 4000000 in
theorem group_walk {w : World} {p : Nat} {F : Nat → Prop} {s : AP} {K : Nat} (h : PlantAt w p F s K) (i : Nat) (d : AD) (hd : s.ds[i]? = some d) (P : Nat) (hP : 2 ≤ P) (hE : ((2 + 64 * ((P - 2) / 64 + 1) : Nat) : Int) ≤ d.n) :
    Calls Tryd.prog 41 #[.agg (dskA p i), .int .i64 (P : Int)] w fun r w' => GroupP w s.on (dkD d) (2 + 64 * ((P - 2) / 64 + 1)) P r w' := by
  have HPL := Lib.hid h
  have HD := Lib.hid hd
  have HDN := Lib.hid (h.dn hd)
  have HW := Lib.hid (dkD_whole d)
  obtain ⟨E, hEE⟩ : ∃ E, E = 2 + 64 * ((P - 2) / 64 + 1) := ⟨_, rfl⟩
  rw [← hEE] at hE ⊢
  have HE := Lib.hid hE
  have HEE := Lib.hid hEE
  have yE : E ≤ 65536 := by have := h.dn hd; omega
  have yP : P < E ∧ E ≤ P + 64 := by omega
  have hi4 := h.il hd
  have yi : (i : Int) < 4 := by omega
  obtain ⟨D, hDD⟩ : ∃ D, D = dkD d := ⟨_, rfl⟩
  rw [← hDD] at HW ⊢
  have HDD := Lib.hid hDD
  have HB0 := Lib.hid (Wl.stamp_lt D P)
  have HG0 := Lib.hid (fun h => grp_n0 (D := D) (E := E) (P := P) h)
  have HG1 := Lib.hid (fun h => grp_nE (D := D) (E := E) (P := P) h)
  have HG2 := Lib.hid (fun h => grp_nT (D := D) (E := E) (P := P) h)
  have HG3 := Lib.hid (fun (a : (Wl.stampOf D P).cost ≠ 0) (b : P + (Wl.stampOf D P).cost ≤ E) (c : Wl.Tagged D P (Wl.stampOf D P).cost (Wl.stampOf D P)) => (Wl.grp_some (D := D) (E := E) (P := P)).2 ⟨rfl, a, b, c, rfl⟩)
  have HST := Lib.hid (show stB (D P) = Wl.stampOf D P by rw [← catB_one D P]; exact stB_cat HW.out P (by omega))
  obtain ⟨st, hst⟩ : ∃ st, st = Wl.stampOf D P := ⟨_, rfl⟩
  rw [← hst] at HB0 HG0 HG1 HG2 HG3 HST
  have hb0 := HB0.out
  have yc : st.cost < 256 := hb0.2.2.1
  have HSO := Lib.hid (show StOk st from ⟨by have := hb0.1; omega, by have := hb0.2.1; omega, by omega, by have := hb0.2.2.2; omega⟩)
  clear h hd hE hEE hDD hst hi4 hb0
  go_enter Tryd.func41, Tryd.ntmps41
  go_upto_region 0 with fail
  refine wp_region_lit ?_
  refine wpList_run (v := .pointer (some ⟨(w).heap.size, 0, none⟩)) (w' := (w).alloc (.cells (dskA p i) 60)) (wanted_none rfl) (gx_box rfl rfl (box_dsk p i _)) ?_;simp only [zz];refine wpList_run (v := .pointer (some ⟨((w).alloc (.cells (dskA p i) 60)).heap.size, 0, none⟩)) (w' := ((w).alloc (.cells (dskA p i) 60)).alloc (.cells (stA ⟨0, 0, 0, 0⟩) 67)) (wanted_none rfl) (gx_alloc rfl (zero_st _)) ?_;simp only [zz];refine nR (.slice none 0 0) (gx_assign rfl rfl) ?_;simp only [zz];refine nR (.int .i64 0) (gx_assign rfl rfl) ?_;simp only [zz]
  have hb_k := (Blk.new (w) 60 (dskA p i)).alloc (.cells (stA ⟨0, 0, 0, 0⟩) 67)
  have hb_r := Blk.new ((w).alloc (.cells (dskA p i) 60)) 67 (stA ⟨0, 0, 0, 0⟩)
  have ht_ := ((Turn.refl nowhere (w)).alloc (.cells (dskA p i) 60)).alloc (.cells (stA ⟨0, 0, 0, 0⟩) 67)
  obtain ⟨n0_, hn0_⟩ : ∃ n, n = (w).heap.size := ⟨_, rfl⟩
  have hz_k : (w).heap.size = n0_ + 0 := by rw [hn0_]; simp
  have hz_r : ((w).alloc (.cells (dskA p i) 60)).heap.size = n0_ + 1 := by rw [hn0_]; simp
  obtain ⟨r, hg_⟩ : ∃ g, g = ((w).alloc (.cells (dskA p i) 60)).heap.size := ⟨_, rfl⟩
  rw [← hg_] at hb_r hz_r ⊢
  clear hg_
  obtain ⟨k, hg_⟩ : ∃ g, g = (w).heap.size := ⟨_, rfl⟩
  rw [← hg_] at hb_k hz_k ⊢
  clear hg_
  generalize ((w).alloc (.cells (dskA p i) 60)).alloc (.cells (stA ⟨0, 0, 0, 0⟩) 67) = w1 at *
  have HT1 := Lib.hid ht_
  clear ht_
  have HBk := Lib.hid hb_k
  have HLk := Lib.hid (show (w).heap.size ≤ k from by omega)
  clear hb_k
  have HBr := Lib.hid hb_r
  have HLr := Lib.hid (show (w).heap.size ≤ r from by omega)
  clear hb_r
  have HNkr := Lib.hid (show k ≠ r from by omega)
  clear hn0_ hz_k hz_r
  clear n0_
  go_upto_region 1 with fail
  refine wp_region_lit ?_
  refine nR (.pointer (some ⟨k, 0, none⟩)) (exec_field (off := 0) (d := 0) rfl rfl (by kernel_rfl)) ?_;simp only [zz];refine nR (.pointer (some ⟨p, 0, none⟩)) (exec_load1 rfl rfl (by kernel_rfl) (HBk.out.cell 0)) ?_;simp only [zz];refine nR (.pointer (some ⟨k, 1, none⟩)) (exec_field (off := 0) (d := 1) rfl rfl (by kernel_rfl)) ?_;simp only [zz];refine nR (.int .i64 (i : Int)) (exec_load1 rfl rfl (by kernel_rfl) (HBk.out.cell 1)) ?_;simp only [zz];refine nR (.int .i64 (P : Int)) (exec_move rfl rfl) ?_;simp only [zz]
  cases hon : s.on
  · refine wpList_op rfl fun K9 HK9 => ?_
    go_wp2_with fail
    refine (read_off (HPL.out.turn HT1.out fun _ _ e => e) i hon P).mono ?_
    rintro e w1 ⟨rfl, rfl⟩
    refine HK9.out _ _ ?_
    clear HK9
    try simp only [zz]
    refine nR (.tuple #[.slice none 0 0, .int .i64 2]) (exec_move rfl rfl) ?_;simp only [zz];refine nR (.slice none 0 0) (ix_extract rfl rfl rfl) ?_;simp only [zz];refine nR (.int .i64 2) (ix_extract rfl rfl rfl) ?_;simp only [zz];refine nR (.slice none 0 0) (gx_assign rfl rfl) ?_;simp only [zz];refine nR (.int .i64 2) (gx_assign rfl rfl) ?_;simp only [zz]
    go_upto_region 2 with fail
    refine wp_region_lit ?_
    refine nR (.int .i64 2) (exec_move rfl rfl) ?_;simp only [zz];refine nR (.bool true) (ix_neq rfl rfl rfl (by decide)) ?_;simp only [zz]
    go_upto_region 3 with fail
    refine wp_region_lit ?_
    refine nR (.agg (stA ⟨0, 0, 0, 0⟩)) (gx_build0 rfl (build_st0 _)) ?_;simp only [zz];refine nR (.int .i64 2) (exec_move rfl rfl) ?_;simp only [zz]
    refine wpList_store_row (wanted_none rfl) 67 (.tmp 4) (.tmp 26) rfl (stA ⟨0, 0, 0, 0⟩) HBr.out rfl rfl (rfl) (by rw [size_st] <;> rfl) (stA_one _) ?_
    intro wz hb_ ht_
    have HBz := Lib.hid hb_
    have HTz := Lib.hid ht_
    clear hb_ ht_
    simp only [zz];refine nR (.slice none 0 0) (gx_assign rfl rfl) ?_;simp only [zz];refine nR (.int .i64 2) (gx_assign rfl rfl) ?_;simp only [zz]
    go_wp2_with fail
    refine bodyPost_ret (v := .tuple #[.agg (stA ⟨0, 0, 0, 0⟩), .slice none 0 0, .int .i64 2]) (ret_cell3 rfl _ _ r 67 _ _ rfl rfl rfl HBz.out Tryd.underlying67 rfl (by rw [size_st]; rfl)) rfl ?_
    exact ⟨HT1.out.trans HTz.out fun k hk e => by have := HLr.out; have e : k = r := e; omega, .inl ⟨hon, rfl⟩⟩
  · refine wpList_op rfl fun K9 HK9 => ?_
    go_wp2_with fail
    refine (read_on (HPL.out.turn HT1.out fun _ _ e => e) i d HD.out hon P (by have := HE.out; omega)).mono ?_
    rintro e w2 ⟨R, rfl, -, hbs, ht⟩
    refine HK9.out _ _ ?_
    clear HK9
    try simp only [zz]
    rw [← HDD.out] at hbs
    have HBS2 := Lib.hid hbs
    have HT2 := Lib.hid (HT1.out.trans ht fun _ _ e => e)
    have HBk2 := Lib.hid (HBk.out.turn ht fun e => e)
    have HBr2 := Lib.hid (HBr.out.turn ht fun e => e)
    have HON := Lib.hid hon
    clear ht hbs HT1 HBk HBr hon
    refine nR (.tuple #[.slice (some ⟨R, 0, none⟩) 64 64, .int .i64 0]) (exec_move rfl rfl) ?_;simp only [zz];refine nR (.slice (some ⟨R, 0, none⟩) 64 64) (ix_extract rfl rfl rfl) ?_;simp only [zz];refine nR (.int .i64 0) (ix_extract rfl rfl rfl) ?_;simp only [zz];refine nR (.slice (some ⟨R, 0, none⟩) 64 64) (gx_assign rfl rfl) ?_;simp only [zz];refine nR (.int .i64 0) (gx_assign rfl rfl) ?_;simp only [zz]
    go_upto_region 2 with fail
    refine wp_region_lit ?_
    refine nR (.int .i64 0) (exec_move rfl rfl) ?_;simp only [zz];refine nR (.bool false) (ix_neq rfl rfl rfl (by decide)) ?_;simp only [zz]
    go_upto_region 4 with fail
    refine wp_region_lit ?_
    refine nR (.slice (some ⟨R, 0, none⟩) 64 64) (exec_move rfl rfl) ?_;simp only [zz]
    refine wpList_op rfl fun K9 HK9 => ?_
    go_wp2_with fail
    refine (stampOf_walk w2 _ 64 64 (D P) HBS2.out (by omega) (by omega) (by omega)).mono ?_
    rintro e w3 ⟨rfl, ht⟩
    refine HK9.out _ _ ?_
    clear HK9
    try simp only [zz]
    rw [HST.out]
    have HBS3 := Lib.hid (HBS2.out.still ht)
    have HT3 := Lib.hid (HT2.out.trans ht fun _ _ e => e)
    have HBk3 := Lib.hid (HBk2.out.turn ht fun e => e)
    have HBr3 := Lib.hid (HBr2.out.turn ht fun e => e)
    clear ht HBS2 HT2 HBk2 HBr2
    refine wpList_run (v := .pointer (some ⟨w3.heap.size, 0, none⟩)) (w' := w3.alloc (.cells (stA ⟨0, 0, 0, 0⟩) 67)) (wanted_none rfl) (gx_alloc rfl (zero_st _)) ?_;simp only [zz]
    have hb_ := Blk.new w3 67 (stA ⟨0, 0, 0, 0⟩)
    have ht_ := (Turn.refl nowhere w3).alloc (.cells (stA ⟨0, 0, 0, 0⟩) 67)
    obtain ⟨q, hg_⟩ : ∃ g, g = w3.heap.size := ⟨_, rfl⟩
    rw [← hg_] at hb_ ⊢
    have HLq := Lib.hid (show w3.heap.size ≤ q from by omega)
    clear hg_
    generalize w3.alloc (.cells (stA ⟨0, 0, 0, 0⟩) 67) = w4 at *
    have HBq := Lib.hid hb_
    have HT4 := Lib.hid ht_
    clear hb_ ht_
    refine wpList_store_row (wanted_none rfl) 67 (.tmp 9) (.tmp 29) rfl (stA st) HBq.out rfl rfl (rfl) (by rw [size_st] <;> rfl) (stA_one _) ?_
    intro w5 hb_ ht_
    have HBq5 := Lib.hid hb_
    have HT5 := Lib.hid ht_
    clear hb_ ht_
    simp only [zz]
    have HT35 := Lib.hid (HT4.out.trans HT5.out fun k hk e => by have := HLq.out; have e : k = q := e; omega)
    have HBS5 := Lib.hid (HBS3.out.still HT35.out)
    have HTw5 := Lib.hid (HT3.out.trans HT35.out fun _ _ e => e)
    have HBk5 := Lib.hid (HBk3.out.turn HT35.out fun e => e)
    have HBr5 := Lib.hid (HBr3.out.turn HT35.out fun e => e)
    have HNrq := Lib.hid (show r ≠ q from by have := HBr3.out.lt; have := HLq.out; omega)
    have HLqw := Lib.hid (show w.heap.size ≤ q from by have := HLq.out; have := HT3.out.size; omega)
    clear HT4 HT5 HT35 HBS3 HT3 HBk3 HBr3 HBq HLq
    by_cases hc0 : st.cost = 0
    · go_upto_region 5 with fail
      refine wp_region_alw (fun W => Blk W q 67 (stA st)) (by kernel_rfl) ?_
      have hS0 : (fun W => Blk W q 67 (stA st)) w5.drew := HBq5.out.drew
      have HD5 := Lib.hid ((Turn.refl nowhere w5).drew)
      generalize w5.drew = wd at *
      refine alw_take (i := 0) (v := .pointer (some ⟨q, 2, none⟩)) rfl (by kernel_rfl) (by kernel_rfl) (fun _ _ _ h => h) (.inl ⟨by rfl, fun W hW => exec_field (off := 0) (d := 2) rfl rfl (by kernel_rfl)⟩) hS0 ?_
      simp only [zz]
      refine alw_take (i := 1) (v := .int .i64 (st.cost : Int)) rfl (by kernel_rfl) (by kernel_rfl) (fun _ _ _ h => h) (.inl ⟨by rfl, fun W hW => exec_load1 rfl rfl (by kernel_rfl) (hW.cell 2)⟩) hS0 ?_
      simp only [zz]
      refine alw_take (i := 2) (v := .bool true) rfl (by kernel_rfl) (by kernel_rfl) (fun _ _ _ h => h) (.inl ⟨by rfl, fun W hW => ix_eql rfl rfl rfl (decide_eq_true (by omega))⟩) hS0 ?_
      simp only [zz]
      refine alw_take (i := 3) (v := .bool true) rfl (by kernel_rfl) (by kernel_rfl) (fun _ _ _ h => h) (.inl ⟨by rfl, fun W hW => exec_move rfl rfl⟩) hS0 ?_
      simp only [zz]
      refine alw_take (i := 4) (v := undef) rfl (by kernel_rfl) (by kernel_rfl) (fun _ _ _ h => h) (.inr ⟨by rfl, rfl⟩) hS0 ?_
      simp only [zz]
      refine alw_take (i := 5) (v := undef) rfl (by kernel_rfl) (by kernel_rfl) (fun _ _ _ h => h) (.inr ⟨by rfl, rfl⟩) hS0 ?_
      simp only [zz]
      refine alw_take (i := 6) (v := undef) rfl (by kernel_rfl) (by kernel_rfl) (fun _ _ _ h => h) (.inr ⟨by rfl, rfl⟩) hS0 ?_
      simp only [zz]
      refine alw_take (i := 7) (v := undef) rfl (by kernel_rfl) (by kernel_rfl) (fun _ _ _ h => h) (.inr ⟨by rfl, rfl⟩) hS0 ?_
      simp only [zz]
      refine alw_take (i := 8) (v := undef) rfl (by kernel_rfl) (by kernel_rfl) (fun _ _ _ h => h) (.inr ⟨by rfl, rfl⟩) hS0 ?_
      simp only [zz]
      refine alw_take (i := 9) (v := undef) rfl (by kernel_rfl) (by kernel_rfl) (fun _ _ _ h => h) (.inr ⟨by rfl, rfl⟩) hS0 ?_
      simp only [zz]
      refine alw_take (i := 10) (v := undef) rfl (by kernel_rfl) (by kernel_rfl) (fun _ _ _ h => h) (.inr ⟨by rfl, rfl⟩) hS0 ?_
      simp only [zz]
      refine alw_take (i := 11) (v := undef) rfl (by kernel_rfl) (by kernel_rfl) (fun _ _ _ h => h) (.inr ⟨by rfl, rfl⟩) hS0 ?_
      simp only [zz]
      refine alw_take (i := 12) (v := undef) rfl (by kernel_rfl) (by kernel_rfl) (fun _ _ _ h => h) (.inr ⟨by rfl, rfl⟩) hS0 ?_
      simp only [zz]
      refine alw_take (i := 13) (v := .bool true) rfl (by kernel_rfl) (by kernel_rfl) (fun _ _ _ h => h) (.inl ⟨by rfl, fun W hW => ix_pickT rfl rfl rfl⟩) hS0 ?_
      simp only [zz]
      refine alw_done rfl ?_
      refine NoPanic.normal ?_
      clear hS0
      try simp only [zz]
      have HTd := Lib.hid (HTw5.out.trans HD5.out fun _ _ e => e)
      have HBrd := Lib.hid (HBr5.out.turn HD5.out fun e => e)
      go_upto_region 6 with fail
      refine wp_region_lit ?_
      refine nR (.agg (stA ⟨0, 0, 0, 0⟩)) (gx_build0 rfl (build_st0 _)) ?_;simp only [zz]
      refine wpList_store_row (wanted_none rfl) 67 (.tmp 4) (.tmp 44) rfl (stA ⟨0, 0, 0, 0⟩) HBrd.out rfl rfl (rfl) (by rw [size_st] <;> rfl) (stA_one _) ?_
      intro wz hb_ ht_
      have HBz := Lib.hid hb_
      have HTz := Lib.hid ht_
      clear hb_ ht_
      simp only [zz];refine nR (.slice none 0 0) (gx_assign rfl rfl) ?_;simp only [zz];refine nR (.int .i64 0) (gx_assign rfl rfl) ?_;simp only [zz]
      go_wp2_with fail
      refine bodyPost_ret (v := .tuple #[.agg (stA ⟨0, 0, 0, 0⟩), .slice none 0 0, .int .i64 0]) (ret_cell3 rfl _ _ r 67 _ _ rfl rfl rfl HBz.out Tryd.underlying67 rfl (by rw [size_st]; rfl)) rfl ?_
      exact ⟨HTd.out.trans HTz.out fun k hk e => by have := HLr.out; have e : k = r := e; omega, .inr (.inl ⟨HON.out, HG0.out hc0, rfl⟩)⟩
    · go_upto_region 5 with fail
      refine wp_region_alw (fun W => Blk W q 67 (stA st)) (by kernel_rfl) ?_
      have hS0 : (fun W => Blk W q 67 (stA st)) w5.drew := HBq5.out.drew
      have HD5 := Lib.hid ((Turn.refl nowhere w5).drew)
      generalize w5.drew = wd at *
      have HTd := Lib.hid (HTw5.out.trans HD5.out fun _ _ e => e)
      have HBrd := Lib.hid (HBr5.out.turn HD5.out fun e => e)
      have HBkd := Lib.hid (HBk5.out.turn HD5.out fun e => e)
      have HBSd := Lib.hid (HBS5.out.still HD5.out)
      have HBqd := Lib.hid (HBq5.out.turn HD5.out fun e => e)
      clear HTw5 HBr5 HBk5 HBS5 HBq5 HD5
      refine alw_take (i := 0) (v := .pointer (some ⟨q, 2, none⟩)) rfl (by kernel_rfl) (by kernel_rfl) (fun _ _ _ h => h) (.inl ⟨by rfl, fun W hW => exec_field (off := 0) (d := 2) rfl rfl (by kernel_rfl)⟩) hS0 ?_
      simp only [zz]
      refine alw_take (i := 1) (v := .int .i64 (st.cost : Int)) rfl (by kernel_rfl) (by kernel_rfl) (fun _ _ _ h => h) (.inl ⟨by rfl, fun W hW => exec_load1 rfl rfl (by kernel_rfl) (hW.cell 2)⟩) hS0 ?_
      simp only [zz]
      refine alw_take (i := 2) (v := .bool false) rfl (by kernel_rfl) (by kernel_rfl) (fun _ _ _ h => h) (.inl ⟨by rfl, fun W hW => ix_eql rfl rfl rfl (decide_eq_false (by omega))⟩) hS0 ?_
      simp only [zz]
      refine alw_take (i := 3) (v := .bool false) rfl (by kernel_rfl) (by kernel_rfl) (fun _ _ _ h => h) (.inl ⟨by rfl, fun W hW => exec_move rfl rfl⟩) hS0 ?_
      simp only [zz]
      refine alw_take (i := 4) (v := .int .i64 (P : Int)) rfl (by kernel_rfl) (by kernel_rfl) (fun _ _ _ h => h) (.inl ⟨by rfl, fun W hW => exec_move rfl rfl⟩) hS0 ?_
      simp only [zz]
      refine alw_take (i := 5) (v := .pointer (some ⟨q, 2, none⟩)) rfl (by kernel_rfl) (by kernel_rfl) (fun _ _ _ h => h) (.inl ⟨by rfl, fun W hW => exec_field (off := 0) (d := 2) rfl rfl (by kernel_rfl)⟩) hS0 ?_
      simp only [zz]
      refine alw_take (i := 6) (v := .int .i64 (st.cost : Int)) rfl (by kernel_rfl) (by kernel_rfl) (fun _ _ _ h => h) (.inl ⟨by rfl, fun W hW => exec_load1 rfl rfl (by kernel_rfl) (hW.cell 2)⟩) hS0 ?_
      simp only [zz]
      refine alw_take (i := 7) (v := .int .i64 ((P + st.cost : Nat) : Int)) rfl (by kernel_rfl) (by kernel_rfl) (fun _ _ _ h => h) (.inl ⟨by rfl, fun W hW => ix_add rfl rfl rfl (by omega) (by omega)⟩) hS0 ?_
      simp only [zz]
      refine alw_take (i := 8) (v := .int .i64 (P : Int)) rfl (by kernel_rfl) (by kernel_rfl) (fun _ _ _ h => h) (.inl ⟨by rfl, fun W hW => exec_move rfl rfl⟩) hS0 ?_
      simp only [zz]
      refine alw_step (i := 9) (by kernel_rfl) rfl rfl ?_
      intro K1 HK1
      go_wp2_with fail
      refine (segmentOf_walk wd P (by omega) (by omega)).mono ?_
      rintro e wd ⟨rfl, rfl⟩

      refine HK1.out _ _ ⟨hS0, ?_⟩
      clear HK1
      try simp only [zz]
      refine alw_take (i := 10) (v := .int .i64 (((P - 2) / 64 + 1 : Nat) : Int)) rfl (by kernel_rfl) (by kernel_rfl) (fun _ _ _ h => h) (.inl ⟨by rfl, fun W hW => ix_add rfl rfl rfl (by omega) (by omega)⟩) hS0 ?_
      simp only [zz]
      refine alw_step (i := 11) (by kernel_rfl) rfl rfl ?_
      intro K1 HK1
      go_wp2_with fail
      refine (begin_walk wd ((P - 2) / 64 + 1) (by omega)).mono ?_
      rintro e wd ⟨rfl, rfl⟩

      refine HK1.out _ _ ⟨hS0, ?_⟩
      clear HK1
      try simp only [zz]
      rw [← HEE.out]
      refine alw_take (i := 12) (v := .bool (decide (E < P + st.cost))) rfl (by kernel_rfl) (by kernel_rfl) (fun _ _ _ h => h) (.inl ⟨by rfl, fun W hW => ix_gtr rfl rfl rfl (by rw [Bool.eq_iff_iff]; simp only [decide_eq_true_eq]; omega)⟩) hS0 ?_
      simp only [zz]
      refine alw_take (i := 13) (v := .bool (decide (E < P + st.cost))) rfl (by kernel_rfl) (by kernel_rfl) (fun _ _ _ h => h) (.inl ⟨by rfl, fun W hW => ix_pickF rfl rfl rfl⟩) hS0 ?_
      simp only [zz]
      refine alw_done rfl ?_
      refine NoPanic.normal ?_
      clear hS0
      try simp only [zz]
      by_cases hbe : E < P + st.cost
      · rw [decide_eq_true hbe]
        go_upto_region 6 with fail
        refine wp_region_lit ?_
        refine nR (.agg (stA ⟨0, 0, 0, 0⟩)) (gx_build0 rfl (build_st0 _)) ?_;simp only [zz]
        refine wpList_store_row (wanted_none rfl) 67 (.tmp 4) (.tmp 44) rfl (stA ⟨0, 0, 0, 0⟩) HBrd.out rfl rfl (rfl) (by rw [size_st] <;> rfl) (stA_one _) ?_
        intro wz hb_ ht_
        have HBz := Lib.hid hb_
        have HTz := Lib.hid ht_
        clear hb_ ht_
        simp only [zz];refine nR (.slice none 0 0) (gx_assign rfl rfl) ?_;simp only [zz];refine nR (.int .i64 0) (gx_assign rfl rfl) ?_;simp only [zz]
        go_wp2_with fail
        refine bodyPost_ret (v := .tuple #[.agg (stA ⟨0, 0, 0, 0⟩), .slice none 0 0, .int .i64 0]) (ret_cell3 rfl _ _ r 67 _ _ rfl rfl rfl HBz.out Tryd.underlying67 rfl (by rw [size_st]; rfl)) rfl ?_
        exact ⟨HTd.out.trans HTz.out fun k hk e => by have := HLr.out; have e : k = r := e; omega, .inr (.inl ⟨HON.out, HG1.out hbe, rfl⟩)⟩
      · rw [decide_eq_false hbe]
        go_upto_region 7 with fail
        refine wp_region_lit ?_
        refine nR (.int .i64 1) (gx_assign rfl rfl) ?_;simp only [zz]
        have HSWD := Lib.hid HTd.out.size
        obtain ⟨B, hB⟩ : ∃ B, B = wd.heap.size := ⟨_, rfl⟩
        have HBk1 := Lib.hid (show k < B by rw [hB]; exact HBkd.out.lt)
        have HBr1 := Lib.hid (show r < B by rw [hB]; exact HBrd.out.lt)
        have HBq1 := Lib.hid (show q < B by rw [hB]; exact HBqd.out.lt)
        have HWB := Lib.hid (show w.heap.size ≤ B by rw [hB]; exact HSWD.out)
        have HLD := Lib.hid (show (D P).length = 64 from HW.out P)
        go_wp2_with fail
        go_loopg [7, 10] (st.cost - 1) (fun gk bv iv wr => ∃ j : Nat, iv = .int .i64 (j : Int) ∧ 0 < j ∧ j + gk = st.cost ∧ Grown wr B bv (catB D P j) ∧ Blk wr k 60 (dskA p i) ∧ Blk wr q 67 (stA st) ∧ Blk wr r 67 (stA ⟨0, 0, 0, 0⟩) ∧ B ≤ wr.heap.size ∧ Turn nowhere w wr)
        case atStart => exact ⟨1, rfl, by omega, by omega, .inl ⟨R, by rw [catB_one, HLD.out], by rw [catB_one, HLD.out]; exact HBSd.out⟩, HBkd.out, HBqd.out, HBrd.out, by omega, HTd.out⟩
        obtain ⟨j, rfl, hj0, hgk, hgr, hbk, hbq, hbr, hsz, htr⟩ := hrel
        have HGK := Lib.hid hgk
        have HGR := Lib.hid hgr
        have HBK := Lib.hid hbk
        have HBQ := Lib.hid hbq
        have HBR := Lib.hid hbr
        have HSZ := Lib.hid hsz
        have HTR := Lib.hid htr
        have HJ0 := Lib.hid hj0
        have yj : j ≤ st.cost := by omega
        have HCL := Lib.hid (catB_len HW.out P j)
        have HCS := Lib.hid (catB_succ D P j)
        clear hgk hgr hbk hbq hbr hsz htr hj0
        by_cases hlt : j < st.cost
        · have y3 : (j : Int) < (st.cost : Int) := by omega
          have HLT := Lib.hid hlt
          go_upto_region 8 with fail
          refine wp_region_lit ?_
          refine nR (.int .i64 (j : Int)) (exec_move rfl rfl) ?_;simp only [zz];refine nR (.pointer (some ⟨q, 2, none⟩)) (exec_field (off := 0) (d := 2) rfl rfl (by kernel_rfl)) ?_;simp only [zz];refine nR (.int .i64 (st.cost : Int)) (exec_load1 rfl rfl (by kernel_rfl) (HBQ.out.cell 2)) ?_;simp only [zz];refine nR (.bool true) (ix_lss rfl rfl rfl (decide_eq_true y3)) ?_;simp only [zz]
          go_upto_region 10 with fail
          refine wp_region_lit ?_
          refine nR (.pointer (some ⟨k, 0, none⟩)) (exec_field (off := 0) (d := 0) rfl rfl (by kernel_rfl)) ?_;simp only [zz];refine nR (.pointer (some ⟨p, 0, none⟩)) (exec_load1 rfl rfl (by kernel_rfl) (HBK.out.cell 0)) ?_;simp only [zz];refine nR (.pointer (some ⟨k, 1, none⟩)) (exec_field (off := 0) (d := 1) rfl rfl (by kernel_rfl)) ?_;simp only [zz];refine nR (.int .i64 (i : Int)) (exec_load1 rfl rfl (by kernel_rfl) (HBK.out.cell 1)) ?_;simp only [zz];refine nR (.int .i64 (P : Int)) (exec_move rfl rfl) ?_;simp only [zz];refine nR (.int .i64 (j : Int)) (exec_move rfl rfl) ?_;simp only [zz];refine nR (.int .i64 ((P + j : Nat) : Int)) (ix_add rfl rfl rfl (by omega) (by omega)) ?_;simp only [zz]
          refine wpList_op rfl fun K9 HK9 => ?_
          go_wp2_with fail
          refine (read_on (HPL.out.turn HTR.out fun _ _ e => e) i d HD.out HON.out (P + j) (by have := HE.out; omega)).mono ?_
          rintro e w6 ⟨R2, rfl, -, hbs, ht⟩
          refine HK9.out _ _ ?_
          clear HK9
          try simp only [zz]
          rw [← HDD.out] at hbs
          have HBS6 := Lib.hid hbs
          have HGR6 := Lib.hid (HGR.out.still ht)
          have HT6 := Lib.hid (HTR.out.trans ht fun _ _ e => e)
          have HBK6 := Lib.hid (HBK.out.turn ht fun e => e)
          have HBQ6 := Lib.hid (HBQ.out.turn ht fun e => e)
          have HBR6 := Lib.hid (HBR.out.turn ht fun e => e)
          have HSZ6 := Lib.hid (Nat.le_trans HSZ.out ht.size)
          clear ht hbs HGR HTR HBK HBQ HBR HSZ
          refine nR (.tuple #[.slice (some ⟨R2, 0, none⟩) 64 64, .int .i64 0]) (exec_move rfl rfl) ?_;simp only [zz];refine nR (.slice (some ⟨R2, 0, none⟩) 64 64) (ix_extract rfl rfl rfl) ?_;simp only [zz];refine nR (.int .i64 0) (ix_extract rfl rfl rfl) ?_;simp only [zz];refine nR (.slice (some ⟨R2, 0, none⟩) 64 64) (gx_assign rfl rfl) ?_;simp only [zz];refine nR (.int .i64 0) (gx_assign rfl rfl) ?_;simp only [zz]
          go_upto_region 11 with fail
          refine wp_region_lit ?_
          refine nR (.int .i64 0) (exec_move rfl rfl) ?_;simp only [zz];refine nR (.bool false) (ix_neq rfl rfl rfl (by decide)) ?_;simp only [zz]
          go_upto_region 13 with fail
          refine wp_region_lit ?_
          refine nR (u7) (exec_move rfl rfl) ?_;simp only [zz];refine nR (.slice (some ⟨R2, 0, none⟩) 64 64) (exec_move rfl rfl) ?_;simp only [zz]
          obtain ⟨v7, w7, hap, hgr7, hb7⟩ := grown_more (c := 64) (ty := 38) HGR6.out HBS6.out (by omega) HSZ6.out (by rw [HCL.out]; omega)
          rw [← HCS.out] at hgr7
          have HAP := Lib.hid hap
          have HGR7 := Lib.hid hgr7
          have HBK7 := Lib.hid (show Blk w7 k 60 (dskA p i) from (hb7.block k HBk1.out).trans HBK6.out)
          have HBQ7 := Lib.hid (show Blk w7 q 67 (stA st) from (hb7.block q HBq1.out).trans HBQ6.out)
          have HBR7 := Lib.hid (show Blk w7 r 67 (stA ⟨0, 0, 0, 0⟩) from (hb7.block r HBr1.out).trans HBR6.out)
          have HSZ7 := Lib.hid (Nat.le_trans HSZ6.out hb7.size)
          have HT7 := Lib.hid (show Turn nowhere w w7 from ⟨hb7.os.trans HT6.out.os, hb7.tape.trans HT6.out.tape, hb7.output.trans HT6.out.output, Nat.le_trans HT6.out.size hb7.size, fun k hk _ => (hb7.block k (Nat.lt_of_lt_of_le hk HWB.out)).trans (HT6.out.block k hk fun e => e)⟩)
          clear hap hgr7 hb7 HGR6 HBK6 HBQ6 HBR6 HSZ6 HT6
          refine wpList_run (v := v7) (w' := w7) (wanted_none rfl) (exec_append rfl rfl rfl HAP.out) ?_;simp only [zz];refine nR (v7) (gx_assign rfl rfl) ?_;simp only [zz]
          go_upto_region 9 with fail
          refine wp_region_lit ?_
          refine nR (.int .i64 (j : Int)) (exec_move rfl rfl) ?_;simp only [zz];refine nR (.int .i64 ((j + 1 : Nat) : Int)) (ix_add rfl rfl rfl (by omega) (by omega)) ?_;simp only [zz];refine nR (.int .i64 ((j + 1 : Nat) : Int)) (gx_assign rfl rfl) ?_;simp only [zz]
          go_wp2_with fail
          go_roundg (st.cost - (j + 1))
          case measure => have := HGK.out; have := HLT.out; omega
          case rel => exact ⟨j + 1, rfl, by omega, by have := HLT.out; omega, HGR7.out, HBK7.out, HBQ7.out, HBR7.out, HSZ7.out, HT7.out⟩
        · obtain rfl : j = st.cost := by omega
          obtain ⟨A6, c6, rfl, hbs, hc6⟩ := HGR.out.form
          have HBS := Lib.hid hbs
          have HC6 := Lib.hid hc6
          rw [HCL.out] at HBS HC6 ⊢
          clear hbs hc6
          go_upto_region 8 with fail
          refine wp_region_lit ?_
          refine nR (.int .i64 (st.cost : Int)) (exec_move rfl rfl) ?_;simp only [zz];refine nR (.pointer (some ⟨q, 2, none⟩)) (exec_field (off := 0) (d := 2) rfl rfl (by kernel_rfl)) ?_;simp only [zz];refine nR (.int .i64 (st.cost : Int)) (exec_load1 rfl rfl (by kernel_rfl) (HBQ.out.cell 2)) ?_;simp only [zz];refine nR (.bool false) (ix_lss rfl rfl rfl (decide_eq_false (by omega))) ?_;simp only [zz]
          go_upto_region 14 with fail
          refine wp_region_lit ?_
          refine nR (.agg (stA st)) (gx_loads rfl rfl (blk_range HBQ.out) Tryd.underlying67 rfl (by rw [size_st]; rfl)) ?_;simp only [zz];refine nR (.slice A6 (64 * st.cost) c6) (exec_move rfl rfl) ?_;simp only [zz]
          refine wpList_op (wanted_none rfl) fun K9 HK9 => ?_
          go_wp2_with fail
          refine (text_walk wr st A6 st.cost c6 (catB D P st.cost) HSO.out HBS.out HC6.out (by omega)).mono ?_
          rintro e w8 ⟨ht, hcase⟩
          have HT8 := Lib.hid (HTR.out.trans ht fun _ _ e => e)
          have HBR8 := Lib.hid (HBR.out.turn ht fun e => e)
          have HBQ8 := Lib.hid (HBQ.out.turn ht fun e => e)
          clear ht HBR HBQ
          rw [tags_cat HW.out] at hcase
          rcases hcase with ⟨htg, A9, c9, rfl, hown⟩ | ⟨hnt, rfl⟩
          · rw [pieces_cat HW.out] at hown
            have HOW := Lib.hid (hown.base (C := w.heap.size) HTR.out.size)
            have HTG := Lib.hid htg
            clear hown htg
            refine HK9.out _ _ ?_
            clear HK9
            try simp only [zz]
            refine nR (.tuple #[.slice A9 (40 * st.cost) c9, .bool true]) (exec_move rfl rfl) ?_;simp only [zz];refine nR (.slice A9 (40 * st.cost) c9) (ix_extract rfl rfl rfl) ?_;simp only [zz];refine nR (.bool true) (ix_extract rfl rfl rfl) ?_;simp only [zz];refine nR (.slice A9 (40 * st.cost) c9) (gx_assign rfl rfl) ?_;simp only [zz];refine nR (.bool true) (gx_assign rfl rfl) ?_;simp only [zz]
            go_upto_region 15 with fail
            refine wp_region_lit ?_
            refine nR (.bool true) (exec_move rfl rfl) ?_;simp only [zz];refine nR (.bool false) (ix_not (b := true) rfl rfl) ?_;simp only [zz]
            go_upto_region 17 with fail
            refine wp_region_lit ?_
            refine nR (.agg (stA st)) (gx_loads rfl rfl (blk_range HBQ8.out) Tryd.underlying67 rfl (by rw [size_st]; rfl)) ?_;simp only [zz];refine nR (.slice A9 (40 * st.cost) c9) (exec_move rfl rfl) ?_;simp only [zz]
            refine wpList_store_row (wanted_none rfl) 67 (.tmp 4) (.tmp 78) rfl (stA st) HBR8.out rfl rfl (rfl) (by rw [size_st] <;> rfl) (stA_one _) ?_
            intro wz hb_ ht_
            have HBz := Lib.hid hb_
            have HTz := Lib.hid ht_
            clear hb_ ht_
            simp only [zz];refine nR (.slice A9 (40 * st.cost) c9) (gx_assign rfl rfl) ?_;simp only [zz];refine nR (.int .i64 0) (gx_assign rfl rfl) ?_;simp only [zz]
            have HOZ := Lib.hid (own_only HOW.out HBR8.out HTz.out (by decide))
            go_wp2_with fail
            refine bodyPost_ret (v := .tuple #[.agg (stA st), .slice A9 (40 * st.cost) c9, .int .i64 0]) (ret_cell3 rfl _ _ r 67 _ _ rfl rfl rfl HBz.out Tryd.underlying67 rfl (by rw [size_st]; rfl)) rfl ?_
            exact ⟨HT8.out.trans HTz.out fun k hk e => by have := HLr.out; have e : k = r := e; omega, .inr (.inr ⟨HON.out, st, _, A9, c9, HG3.out hc0 (by omega) HTG.out, rfl, HOZ.out⟩)⟩
          · refine HK9.out _ _ ?_
            clear HK9
            try simp only [zz]
            refine nR (.tuple #[.slice none 0 0, .bool false]) (exec_move rfl rfl) ?_;simp only [zz];refine nR (.slice none 0 0) (ix_extract rfl rfl rfl) ?_;simp only [zz];refine nR (.bool false) (ix_extract rfl rfl rfl) ?_;simp only [zz];refine nR (.slice none 0 0) (gx_assign rfl rfl) ?_;simp only [zz];refine nR (.bool false) (gx_assign rfl rfl) ?_;simp only [zz]
            go_upto_region 15 with fail
            refine wp_region_lit ?_
            refine nR (.bool false) (exec_move rfl rfl) ?_;simp only [zz];refine nR (.bool true) (ix_not (b := false) rfl rfl) ?_;simp only [zz]
            go_upto_region 16 with fail
            refine wp_region_lit ?_
            refine nR (.agg (stA ⟨0, 0, 0, 0⟩)) (gx_build0 rfl (build_st0 _)) ?_;simp only [zz]
            refine wpList_store_row (wanted_none rfl) 67 (.tmp 4) (.tmp 77) rfl (stA ⟨0, 0, 0, 0⟩) HBR8.out rfl rfl (rfl) (by rw [size_st] <;> rfl) (stA_one _) ?_
            intro wz hb_ ht_
            have HBz := Lib.hid hb_
            have HTz := Lib.hid ht_
            clear hb_ ht_
            simp only [zz];refine nR (.slice none 0 0) (gx_assign rfl rfl) ?_;simp only [zz];refine nR (.int .i64 0) (gx_assign rfl rfl) ?_;simp only [zz]
            go_wp2_with fail
            refine bodyPost_ret (v := .tuple #[.agg (stA ⟨0, 0, 0, 0⟩), .slice none 0 0, .int .i64 0]) (ret_cell3 rfl _ _ r 67 _ _ rfl rfl rfl HBz.out Tryd.underlying67 rfl (by rw [size_st]; rfl)) rfl ?_
            exact ⟨HT8.out.trans HTz.out fun k hk e => by have := HLr.out; have e : k = r := e; omega, .inr (.inl ⟨HON.out, HG2.out hnt, rfl⟩)⟩
end Go.Proofs.YtelipeoilcepbaaDoor
