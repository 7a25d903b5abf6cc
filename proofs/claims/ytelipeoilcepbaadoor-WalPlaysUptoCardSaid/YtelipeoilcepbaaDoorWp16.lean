/-
  Texts in one file: WlR. Conditions: the tables and the errors read as the program's text lays them.
-/
import Derived.Test.YtelipeoilcepbaaDoorWp0
import Derived.Test.YtelipeoilcepbaaDoorWp15
namespace Go.Proofs.YtelipeoilcepbaaDoor
open Go.RowKit
open Wl (B8)
set_option linter.unusedVariables false
set_option linter.unusedSimpArgs false
set_option maxRecDepth 20000
structure Nwx where
  q : Nat
  a : Nat
  f : Nat
  wh : Bool
  g : Nat
def nwStep (D : Wl.Disk) (i : Nat) (b : Bool) (y : Nwx) : Nwx :=
  if b = true ∧ (y.wh = false ∨ y.a < (Wl.stampOf D i).age) then ⟨i, (Wl.stampOf D i).age, (Wl.stampOf D i).no, true, max y.g (Wl.ages D i)⟩ else { y with g := max y.g (Wl.ages D i) }
def Nw (D : Wl.Disk) : Nat → Nwx → Prop
  | 0, x => x = ⟨0, 0, 0, false, 0⟩
  | i + 1, x => ∃ y b, Nw D i y ∧ (b = true ↔ Wl.Hw Crc.sumN D i) ∧ x = nwStep D i b y
def NewestP (w : World) (on : Bool) (D : Wl.Disk) (r : Ending) (w' : World) : Prop :=
  Turn nowhere w w' ∧ ((on = false ∧ r = .returned (.tuple #[.agg (hdA 0 0 0 false), .int .i64 2])) ∨
    (on = true ∧ ∃ x, Nw D 2 x ∧ r = .returned (.tuple #[.agg (hdA x.q x.g x.f x.wh), .int .i64 0])))
theorem Nw.g_lt {D : Wl.Disk} : ∀ {i : Nat} {x : Nwx}, Nw D i x → x.g < 4294967296
  | 0, x, h => by rw [show x = _ from h]; decide
  | i + 1, x, h => by
    obtain ⟨y, b, h1, _, rfl⟩ := h
    have h2 := Nw.g_lt h1
    have h3 : Wl.ages D i < 4294967296 := by
      have h4 : ∀ j, Wl.ageAt D i j < 4294967296 := fun j => num_lt4 (by rw [List.length_take]; omega)
      have := h4 0
      have := h4 1
      unfold Wl.ages
      omega
    unfold nwStep
    split <;> (show max y.g (Wl.ages D i) < 4294967296; omega)
set_option maxRecDepth 20000 in
set_option maxHeartbeats 4000000 in
theorem newestHeader_walk {w : World} {p : Nat} {F : Nat → Prop} {s : AP} {K : Nat} (h : PlantAt w p F s K) (htab : Tab w) (i : Nat) (d : AD) (hd : s.ds[i]? = some d) (hn : 2 ≤ d.n) :
    Calls Tryd.prog 37 #[.agg (dskA p i)] w fun r w' => NewestP w s.on (dkD d) r w' := by
  have HPL := Lib.hid h
  have HTAB := Lib.hid htab
  have HD := Lib.hid hd
  have HN := Lib.hid hn
  obtain ⟨D, hDD⟩ : ∃ D, D = dkD d := ⟨_, rfl⟩
  rw [← hDD]
  have HDD := Lib.hid hDD
  clear h hd hDD htab hn
  go_enter Tryd.func37, Tryd.ntmps37
  go_upto_region 0 with fail
  refine wp_region_lit ?_
  refine wpList_run (v := .pointer (some ⟨(w).heap.size, 0, none⟩)) (w' := (w).alloc (.cells (dskA p i) 60)) (wanted_none rfl) (gx_box rfl rfl (box_dsk p i _)) ?_;simp only [zz];refine wpList_run (v := .pointer (some ⟨((w).alloc (.cells (dskA p i) 60)).heap.size, 0, none⟩)) (w' := ((w).alloc (.cells (dskA p i) 60)).alloc (.cells (hdA 0 0 0 false) 62)) (wanted_none rfl) (gx_alloc rfl (zero_hdr _)) ?_;simp only [zz];refine nR (.int .i64 0) (gx_assign rfl rfl) ?_;simp only [zz]
  have hb_k := (Blk.new (w) 60 (dskA p i)).alloc (.cells (hdA 0 0 0 false) 62)
  have hb_r := Blk.new ((w).alloc (.cells (dskA p i) 60)) 62 (hdA 0 0 0 false)
  have ht_ := ((Turn.refl nowhere (w)).alloc (.cells (dskA p i) 60)).alloc (.cells (hdA 0 0 0 false) 62)
  obtain ⟨n0_, hn0_⟩ : ∃ n, n = (w).heap.size := ⟨_, rfl⟩
  have hz_k : (w).heap.size = n0_ + 0 := by rw [hn0_]; simp
  have hz_r : ((w).alloc (.cells (dskA p i) 60)).heap.size = n0_ + 1 := by rw [hn0_]; simp
  obtain ⟨r, hg_⟩ : ∃ g, g = ((w).alloc (.cells (dskA p i) 60)).heap.size := ⟨_, rfl⟩
  rw [← hg_] at hb_r hz_r ⊢
  clear hg_
  obtain ⟨k, hg_⟩ : ∃ g, g = (w).heap.size := ⟨_, rfl⟩
  rw [← hg_] at hb_k hz_k ⊢
  clear hg_
  generalize ((w).alloc (.cells (dskA p i) 60)).alloc (.cells (hdA 0 0 0 false) 62) = w1 at *
  have HT1 := Lib.hid ht_
  clear ht_
  have HBk := Lib.hid hb_k
  have HLk := Lib.hid (show (w).heap.size ≤ k from by omega)
  clear hb_k
  have HBr := Lib.hid hb_r
  have HLr := Lib.hid (show (w).heap.size ≤ r from by omega)
  clear hb_r
  have HNkr := Lib.hid (show k ≠ r from by omega)
  clear hn0_ hz_k hz_r
  clear n0_
  go_upto_region 1 with fail
  refine wp_region_lit ?_
  refine wpList_run (v := .pointer (some ⟨w1.heap.size, 0, none⟩)) (w' := w1.alloc (.cells (hdA 0 0 0 false) 62)) (wanted_none rfl) (gx_alloc rfl (zero_hdr _)) ?_;simp only [zz]
  have hb_ := Blk.new w1 62 (hdA 0 0 0 false)
  have ht_ := (Turn.refl nowhere w1).alloc (.cells (hdA 0 0 0 false) 62)
  obtain ⟨n, hg_⟩ : ∃ g, g = w1.heap.size := ⟨_, rfl⟩
  rw [← hg_] at hb_ ⊢
  have HLn := Lib.hid (show w1.heap.size ≤ n from by omega)
  clear hg_
  generalize w1.alloc (.cells (hdA 0 0 0 false) 62) = w2 at *
  have HBn := Lib.hid hb_
  have HT2 := Lib.hid ht_
  clear hb_ ht_
  have HT2w := Lib.hid (HT1.out.trans HT2.out fun _ _ e => e)
  have HBk2 := Lib.hid (HBk.out.turn HT2.out fun e => e)
  have HBr2 := Lib.hid (HBr.out.turn HT2.out fun e => e)
  have HNkn := Lib.hid (show k ≠ n from by have := HBk.out.lt; have := HLn.out; omega)
  have HNrn := Lib.hid (show r ≠ n from by have := HBr.out.lt; have := HLn.out; omega)
  have HLnw := Lib.hid (show w.heap.size ≤ n from by have := HLn.out; have := HT1.out.size; omega)
  go_upto_region 2 with fail
  refine wp_region_lit ?_
  refine nR (.int .i64 0) (gx_assign rfl rfl) ?_;simp only [zz]
  go_upto_region 3 with fail
  refine wp_region_lit ?_
  refine nR (.int .i64 0) (exec_move rfl rfl) ?_;simp only [zz]
  go_wp2_with fail
  go_loopg [5, 10] 2 (fun gk gv iv wr => ∃ (m : Nat) (x : Nwx), iv = .int .i64 (m : Int) ∧ m + gk = 2 ∧ gv = .int .i64 (x.g : Int) ∧ Nw D m x ∧ Blk wr n 62 (hdA x.q x.a x.f x.wh) ∧ Blk wr k 60 (dskA p i) ∧ Blk wr r 62 (hdA 0 0 0 false) ∧ (m = 0 ∨ s.on = true) ∧ Turn nowhere w wr)
  case atStart => exact ⟨0, ⟨0, 0, 0, false, 0⟩, rfl, rfl, rfl, rfl, HBn.out, HBk2.out, HBr2.out, .inl rfl, HT2w.out⟩
  obtain ⟨m, x, rfl, hgk, rfl, hnw, hbn, hbk, hbr, hox, htr⟩ := hrel
  have HOX := Lib.hid hox
  have HGK := Lib.hid hgk
  have HNW := Lib.hid hnw
  have HBN := Lib.hid hbn
  have HBK := Lib.hid hbk
  have HBR := Lib.hid hbr
  have HTR := Lib.hid htr
  have ym : m ≤ 2 := by omega
  have yg : x.g < 4294967296 := hnw.g_lt
  clear hgk hnw hbn hbk hbr hox htr HBn HBk2 HBr2 HT2w
  by_cases hlt : m < 2
  · have HLT := Lib.hid hlt
    have y3 : (m : Int) < 2 := by omega
    clear hlt
    go_upto_region 4 with fail
    refine wp_region_lit ?_
    refine nR (.bool true) (ix_lss rfl rfl rfl (decide_eq_true y3)) ?_;simp only [zz]
    go_upto_region 5 with fail
    refine wp_region_lit ?_
    refine nR (.int .i64 (m : Int)) (exec_move rfl rfl) ?_;simp only [zz];refine nR (.int .i64 (m : Int)) (gx_assign rfl rfl) ?_;simp only [zz]
    go_upto_region 6 with fail
    refine wp_region_lit ?_
    refine nR (.agg (dskA p i)) (gx_loads rfl rfl (blk_range HBK.out) Tryd.underlying60 rfl (by rw [size_dsk]; rfl)) ?_;simp only [zz];refine nR (.int .i64 (m : Int)) (exec_move rfl rfl) ?_;simp only [zz]
    refine wpList_op (wanted_none rfl) fun K9 HK9 => ?_
    go_wp2_with fail
    refine (header_walk (HPL.out.turn HTR.out fun _ _ e => e) (tab_still HTAB.out HTR.out) i d HD.out m (by have := HN.out; have := HLT.out; omega)).mono ?_
    rintro e w3 ⟨ht, hcase⟩
    rw [← HDD.out] at hcase
    have HT3 := Lib.hid (HTR.out.trans ht fun _ _ e => e)
    have HBN3 := Lib.hid (HBN.out.turn ht fun e => e)
    have HBK3 := Lib.hid (HBK.out.turn ht fun e => e)
    have HBR3 := Lib.hid (HBR.out.turn ht fun e => e)
    clear ht HBN HBK HBR HTR
    rcases hcase with ⟨hoff, rfl⟩ | ⟨hon, b, hb, rfl⟩
    · refine HK9.out _ _ ?_
      clear HK9
      try simp only [zz]
      refine nR (.tuple #[.agg (hdA 0 0 0 false), .int .i64 0, .int .i64 2]) (exec_move rfl rfl) ?_;simp only [zz];refine nR (.agg (hdA 0 0 0 false)) (ix_extract rfl rfl rfl) ?_;simp only [zz];refine nR (.int .i64 0) (ix_extract rfl rfl rfl) ?_;simp only [zz];refine nR (.int .i64 2) (ix_extract rfl rfl rfl) ?_;simp only [zz];refine wpList_run (v := .pointer (some ⟨w3.heap.size, 0, none⟩)) (w' := w3.alloc (.cells (hdA 0 0 0 false) 62)) (wanted_none rfl) (gx_alloc rfl (zero_hdr _)) ?_;simp only [zz]
      have hb_ := Blk.new w3 62 (hdA 0 0 0 false)
      have ht_ := (Turn.refl nowhere w3).alloc (.cells (hdA 0 0 0 false) 62)
      obtain ⟨v, hg_⟩ : ∃ g, g = w3.heap.size := ⟨_, rfl⟩
      rw [← hg_] at hb_ ⊢
      have HLv := Lib.hid (show w3.heap.size ≤ v from by omega)
      clear hg_
      generalize w3.alloc (.cells (hdA 0 0 0 false) 62) = w4 at *
      have HBv := Lib.hid hb_
      have HT4 := Lib.hid ht_
      clear hb_ ht_
      refine wpList_store_row (wanted_none rfl) 62 (.tmp 7) (.tmp 17) rfl (hdA 0 0 0 false) HBv.out rfl rfl (rfl) (by rw [size_hdr] <;> rfl) (hdA_one _ _ _ _) ?_
      intro w5 hb_ ht_
      have HBv5 := Lib.hid hb_
      have HT5 := Lib.hid ht_
      clear hb_ ht_
      simp only [zz]
      have HT35 := Lib.hid (HT4.out.trans HT5.out fun k hk e => by have := HLv.out; have e : k = v := e; omega)
      have HTw5 := Lib.hid (HT3.out.trans HT35.out fun _ _ e => e)
      have HBN5 := Lib.hid (HBN3.out.turn HT35.out fun e => e)
      have HBK5 := Lib.hid (HBK3.out.turn HT35.out fun e => e)
      have HBR5 := Lib.hid (HBR3.out.turn HT35.out fun e => e)
      have HNvn := Lib.hid (show v ≠ n from by have := HBN3.out.lt; have := HLv.out; omega)
      clear HT4 HT5 HT35 HT3 HBN3 HBK3 HBR3 HBv HLv
      refine nR (.int .i64 0) (gx_assign rfl rfl) ?_;simp only [zz];refine nR (.int .i64 2) (gx_assign rfl rfl) ?_;simp only [zz]
      go_upto_region 7 with fail
      refine wp_region_lit ?_
      refine nR (.int .i64 2) (exec_move rfl rfl) ?_;simp only [zz];refine nR (.bool true) (ix_neq rfl rfl rfl (by decide)) ?_;simp only [zz]
      go_upto_region 8 with fail
      refine wp_region_lit ?_
      refine nR (.agg (hdA 0 0 0 false)) (gx_build0 rfl (build_hd0 _)) ?_;simp only [zz];refine nR (.int .i64 2) (exec_move rfl rfl) ?_;simp only [zz]
      refine wpList_store_row (wanted_none rfl) 62 (.tmp 2) (.tmp 22) rfl (hdA 0 0 0 false) HBR5.out rfl rfl (rfl) (by rw [size_hdr] <;> rfl) (hdA_one _ _ _ _) ?_
      intro wz hb_ ht_
      have HBz := Lib.hid hb_
      have HTz := Lib.hid ht_
      clear hb_ ht_
      simp only [zz];refine nR (.int .i64 2) (gx_assign rfl rfl) ?_;simp only [zz]
      go_wp2_with fail
      refine bodyPost_ret (v := .tuple #[.agg (hdA 0 0 0 false), .int .i64 2]) (ret_cell2 rfl _ _ r 62 _ _ rfl rfl HBz.out Tryd.underlying62 rfl (by rw [size_hdr]; rfl)) rfl ?_
      exact ⟨HTw5.out.trans HTz.out fun k hk e => by have := HLr.out; have e : k = r := e; omega, .inl ⟨hoff, rfl⟩⟩
    · obtain ⟨st, hst⟩ : ∃ st, st = Wl.stampOf D m := ⟨_, rfl⟩
      obtain ⟨ag, hag⟩ : ∃ ag, ag = Wl.ages D m := ⟨_, rfl⟩
      rw [← hst, ← hag]
      have HST := Lib.hid hst
      have HAG := Lib.hid hag
      have HB := Lib.hid hb
      have HON := Lib.hid hon
      clear hst hag hb hon
      refine HK9.out _ _ ?_
      clear HK9
      try simp only [zz]
      refine nR (.tuple #[.agg (hdA m st.age st.no b), .int .i64 (ag : Int), .int .i64 0]) (exec_move rfl rfl) ?_;simp only [zz];refine nR (.agg (hdA m st.age st.no b)) (ix_extract rfl rfl rfl) ?_;simp only [zz];refine nR (.int .i64 (ag : Int)) (ix_extract rfl rfl rfl) ?_;simp only [zz];refine nR (.int .i64 0) (ix_extract rfl rfl rfl) ?_;simp only [zz];refine wpList_run (v := .pointer (some ⟨w3.heap.size, 0, none⟩)) (w' := w3.alloc (.cells (hdA 0 0 0 false) 62)) (wanted_none rfl) (gx_alloc rfl (zero_hdr _)) ?_;simp only [zz]
      have hb_ := Blk.new w3 62 (hdA 0 0 0 false)
      have ht_ := (Turn.refl nowhere w3).alloc (.cells (hdA 0 0 0 false) 62)
      obtain ⟨v, hg_⟩ : ∃ g, g = w3.heap.size := ⟨_, rfl⟩
      rw [← hg_] at hb_ ⊢
      have HLv := Lib.hid (show w3.heap.size ≤ v from by omega)
      clear hg_
      generalize w3.alloc (.cells (hdA 0 0 0 false) 62) = w4 at *
      have HBv := Lib.hid hb_
      have HT4 := Lib.hid ht_
      clear hb_ ht_
      refine wpList_store_row (wanted_none rfl) 62 (.tmp 7) (.tmp 17) rfl (hdA m st.age st.no b) HBv.out rfl rfl (rfl) (by rw [size_hdr] <;> rfl) (hdA_one _ _ _ _) ?_
      intro w5 hb_ ht_
      have HBv5 := Lib.hid hb_
      have HT5 := Lib.hid ht_
      clear hb_ ht_
      simp only [zz]
      have HT35 := Lib.hid (HT4.out.trans HT5.out fun k hk e => by have := HLv.out; have e : k = v := e; omega)
      have HTw5 := Lib.hid (HT3.out.trans HT35.out fun _ _ e => e)
      have HBN5 := Lib.hid (HBN3.out.turn HT35.out fun e => e)
      have HBK5 := Lib.hid (HBK3.out.turn HT35.out fun e => e)
      have HBR5 := Lib.hid (HBR3.out.turn HT35.out fun e => e)
      have HNvn := Lib.hid (show v ≠ n from by have := HBN3.out.lt; have := HLv.out; omega)
      clear HT4 HT5 HT35 HT3 HBN3 HBK3 HBR3 HBv HLv
      refine nR (.int .i64 (ag : Int)) (gx_assign rfl rfl) ?_;simp only [zz];refine nR (.int .i64 0) (gx_assign rfl rfl) ?_;simp only [zz]
      go_upto_region 7 with fail
      refine wp_region_lit ?_
      refine nR (.int .i64 0) (exec_move rfl rfl) ?_;simp only [zz];refine nR (.bool false) (ix_neq rfl rfl rfl (by decide)) ?_;simp only [zz]
      go_upto_region 9 with fail
      refine wp_region_lit ?_
      refine nR (.int .i64 (x.g : Int)) (exec_move rfl rfl) ?_;simp only [zz];refine nR (.int .i64 (ag : Int)) (exec_move rfl rfl) ?_;simp only [zz];refine nR (.int .i64 ((max x.g ag : Nat) : Int)) (gx_max rfl rfl rfl rfl (by split <;> omega)) ?_;simp only [zz];refine nR (.int .i64 ((max x.g ag : Nat) : Int)) (gx_assign rfl rfl) ?_;simp only [zz]
      have HNX := Lib.hid (show Nw D (m + 1) (nwStep D m b x) from ⟨x, b, HNW.out, HB.out, rfl⟩)
      have HNS := Lib.hid (show nwStep D m b x = if b = true ∧ (x.wh = false ∨ x.a < st.age) then ⟨m, st.age, st.no, true, max x.g ag⟩ else { x with g := max x.g ag } by rw [HST.out, HAG.out]; rfl)
      generalize nwStep D m b x = x2 at *
      clear HB HNW
      obtain ⟨xq, xa, xf, xw, xg⟩ := x
      cases b
      · go_upto_region 10 with fail
        first
        | (rename_i K9 hK9; have HKC := Lib.hid hK9; clear hK9)
        | (rename_i K9 hK9 K8; have HKC := Lib.hid hK9; clear hK9)
        refine wp_region_lit ?_
        refine nR (.pointer (some ⟨v, 3, none⟩)) (exec_field (off := 0) (d := 3) rfl rfl (by kernel_rfl)) ?_;simp only [zz];refine nR (.bool false) (exec_load1 rfl rfl (by kernel_rfl) (HBv5.out.cell 3)) ?_;simp only [zz];refine nR (.bool false) (exec_move rfl rfl) ?_;simp only [zz]
        go_wp2_with fail
        refine HKC.out _ _ ?_
        clear HKC
        have hx2 : x2 = ⟨xq, xa, xf, xw, max xg ag⟩ := by rw [HNS.out, if_neg (by simp)]
        subst hx2
        go_upto_region 12 with fail
        refine wp_region_lit ?_
        refine nR (.int .i64 ((m + 1 : Nat) : Int)) (ix_add rfl rfl rfl (by omega) (by omega)) ?_;simp only [zz];refine nR (.int .i64 ((m + 1 : Nat) : Int)) (exec_move rfl rfl) ?_;simp only [zz]
        go_wp2_with fail
        go_roundg (2 - (m + 1))
        case measure => have := HGK.out; have := HLT.out; omega
        case rel => exact ⟨m + 1, _, rfl, by have := HLT.out; omega, rfl, HNX.out, HBN5.out, HBK5.out, HBR5.out, .inr HON.out, HTw5.out⟩
      · cases xw
        · go_upto_region 10 with fail
          first
          | (rename_i K9 hK9; have HKC := Lib.hid hK9; clear hK9)
          | (rename_i K9 hK9 K8; have HKC := Lib.hid hK9; clear hK9)
          refine wp_region_lit ?_
          refine nR (.pointer (some ⟨v, 3, none⟩)) (exec_field (off := 0) (d := 3) rfl rfl (by kernel_rfl)) ?_;simp only [zz];refine nR (.bool true) (exec_load1 rfl rfl (by kernel_rfl) (HBv5.out.cell 3)) ?_;simp only [zz];refine nR (.bool true) (exec_move rfl rfl) ?_;simp only [zz];refine wpList_run (v := .pointer (some ⟨n, 3, none⟩)) rfl (exec_field (off := 0) (d := 3) rfl rfl (by kernel_rfl)) ?_;simp only [zz];refine wpList_run (v := .bool false) rfl (exec_load1 rfl rfl (by kernel_rfl) (HBN5.out.cell 3)) ?_;simp only [zz];refine wpList_run (v := .bool true) rfl (ix_not (b := false) rfl rfl) ?_;simp only [zz];refine wpList_run (v := .bool true) rfl (exec_move rfl rfl) ?_;simp only [zz]
          go_wp2_with fail
          refine HKC.out _ _ ?_
          clear HKC
          have hx2 : x2 = ⟨m, st.age, st.no, true, max xg ag⟩ := by rw [HNS.out, if_pos (by simp)]
          subst hx2
          go_upto_region 11 with fail
          refine wp_region_lit ?_
          refine nR (.agg (hdA m st.age st.no true)) (gx_loads rfl rfl (blk_range HBv5.out) Tryd.underlying62 rfl (by rw [size_hdr]; rfl)) ?_;simp only [zz]
          refine wpList_store_row (wanted_none rfl) 62 (.tmp 4) (.tmp 41) rfl (hdA m st.age st.no true) HBN5.out rfl rfl (rfl) (by rw [size_hdr] <;> rfl) (hdA_one _ _ _ _) ?_
          intro w6 hb_ ht_
          have HBN6 := Lib.hid hb_
          have HT6 := Lib.hid ht_
          clear hb_ ht_
          simp only [zz]
          go_upto_region 12 with fail
          refine wp_region_lit ?_
          refine nR (.int .i64 ((m + 1 : Nat) : Int)) (ix_add rfl rfl rfl (by omega) (by omega)) ?_;simp only [zz];refine nR (.int .i64 ((m + 1 : Nat) : Int)) (exec_move rfl rfl) ?_;simp only [zz]
          go_wp2_with fail
          go_roundg (2 - (m + 1))
          case measure => have := HGK.out; have := HLT.out; omega
          case rel => exact ⟨m + 1, _, rfl, by have := HLT.out; omega, rfl, HNX.out, HBN6.out, HBK5.out.turn (F := only n) HT6.out (fun e => HNkn.out e), HBR5.out.turn (F := only n) HT6.out (fun e => HNrn.out e), .inr HON.out, HTw5.out.trans HT6.out fun k hk e => by have := HLnw.out; have e : k = n := e; omega⟩
        · by_cases hgt : xa < st.age
          · go_upto_region 10 with fail
            refine wp_region_lit ?_
            refine nR (.pointer (some ⟨v, 3, none⟩)) (exec_field (off := 0) (d := 3) rfl rfl (by kernel_rfl)) ?_;simp only [zz];refine nR (.bool true) (exec_load1 rfl rfl (by kernel_rfl) (HBv5.out.cell 3)) ?_;simp only [zz];refine nR (.bool true) (exec_move rfl rfl) ?_;simp only [zz];refine wpList_run (v := .pointer (some ⟨n, 3, none⟩)) rfl (exec_field (off := 0) (d := 3) rfl rfl (by kernel_rfl)) ?_;simp only [zz];refine wpList_run (v := .bool true) rfl (exec_load1 rfl rfl (by kernel_rfl) (HBN5.out.cell 3)) ?_;simp only [zz];refine wpList_run (v := .bool false) rfl (ix_not (b := true) rfl rfl) ?_;simp only [zz];refine wpList_run (v := .bool false) rfl (exec_move rfl rfl) ?_;simp only [zz];refine wpList_run (v := .pointer (some ⟨v, 1, none⟩)) rfl (exec_field (off := 0) (d := 1) rfl rfl (by kernel_rfl)) ?_;simp only [zz];refine wpList_run (v := .int .i64 (st.age : Int)) rfl (exec_load1 rfl rfl (by kernel_rfl) (HBv5.out.cell 1)) ?_;simp only [zz];refine wpList_run (v := .pointer (some ⟨n, 1, none⟩)) rfl (exec_field (off := 0) (d := 1) rfl rfl (by kernel_rfl)) ?_;simp only [zz];refine wpList_run (v := .int .i64 (xa : Int)) rfl (exec_load1 rfl rfl (by kernel_rfl) (HBN5.out.cell 1)) ?_;simp only [zz];refine wpList_run (v := .bool true) rfl (ix_gtr rfl rfl rfl (decide_eq_true (by omega))) ?_;simp only [zz];refine wpList_run (v := .bool true) rfl (ix_pickF rfl rfl rfl) ?_;simp only [zz];refine nR (.bool true) (ix_pickT rfl rfl rfl) ?_;simp only [zz]
            have hx2 : x2 = ⟨m, st.age, st.no, true, max xg ag⟩ := by rw [HNS.out, if_pos (by simp [hgt])]
            subst hx2
            go_upto_region 11 with fail
            refine wp_region_lit ?_
            refine nR (.agg (hdA m st.age st.no true)) (gx_loads rfl rfl (blk_range HBv5.out) Tryd.underlying62 rfl (by rw [size_hdr]; rfl)) ?_;simp only [zz]
            refine wpList_store_row (wanted_none rfl) 62 (.tmp 4) (.tmp 41) rfl (hdA m st.age st.no true) HBN5.out rfl rfl (rfl) (by rw [size_hdr] <;> rfl) (hdA_one _ _ _ _) ?_
            intro w6 hb_ ht_
            have HBN6 := Lib.hid hb_
            have HT6 := Lib.hid ht_
            clear hb_ ht_
            simp only [zz]
            go_upto_region 12 with fail
            refine wp_region_lit ?_
            refine nR (.int .i64 ((m + 1 : Nat) : Int)) (ix_add rfl rfl rfl (by omega) (by omega)) ?_;simp only [zz];refine nR (.int .i64 ((m + 1 : Nat) : Int)) (exec_move rfl rfl) ?_;simp only [zz]
            go_wp2_with fail
            go_roundg (2 - (m + 1))
            case measure => have := HGK.out; have := HLT.out; omega
            case rel => exact ⟨m + 1, _, rfl, by have := HLT.out; omega, rfl, HNX.out, HBN6.out, HBK5.out.turn (F := only n) HT6.out (fun e => HNkn.out e), HBR5.out.turn (F := only n) HT6.out (fun e => HNrn.out e), .inr HON.out, HTw5.out.trans HT6.out fun k hk e => by have := HLnw.out; have e : k = n := e; omega⟩
          · go_upto_region 10 with fail
            refine wp_region_lit ?_
            refine nR (.pointer (some ⟨v, 3, none⟩)) (exec_field (off := 0) (d := 3) rfl rfl (by kernel_rfl)) ?_;simp only [zz];refine nR (.bool true) (exec_load1 rfl rfl (by kernel_rfl) (HBv5.out.cell 3)) ?_;simp only [zz];refine nR (.bool true) (exec_move rfl rfl) ?_;simp only [zz];refine wpList_run (v := .pointer (some ⟨n, 3, none⟩)) rfl (exec_field (off := 0) (d := 3) rfl rfl (by kernel_rfl)) ?_;simp only [zz];refine wpList_run (v := .bool true) rfl (exec_load1 rfl rfl (by kernel_rfl) (HBN5.out.cell 3)) ?_;simp only [zz];refine wpList_run (v := .bool false) rfl (ix_not (b := true) rfl rfl) ?_;simp only [zz];refine wpList_run (v := .bool false) rfl (exec_move rfl rfl) ?_;simp only [zz];refine wpList_run (v := .pointer (some ⟨v, 1, none⟩)) rfl (exec_field (off := 0) (d := 1) rfl rfl (by kernel_rfl)) ?_;simp only [zz];refine wpList_run (v := .int .i64 (st.age : Int)) rfl (exec_load1 rfl rfl (by kernel_rfl) (HBv5.out.cell 1)) ?_;simp only [zz];refine wpList_run (v := .pointer (some ⟨n, 1, none⟩)) rfl (exec_field (off := 0) (d := 1) rfl rfl (by kernel_rfl)) ?_;simp only [zz];refine wpList_run (v := .int .i64 (xa : Int)) rfl (exec_load1 rfl rfl (by kernel_rfl) (HBN5.out.cell 1)) ?_;simp only [zz];refine wpList_run (v := .bool false) rfl (ix_gtr rfl rfl rfl (decide_eq_false (by omega))) ?_;simp only [zz];refine wpList_run (v := .bool false) rfl (ix_pickF rfl rfl rfl) ?_;simp only [zz];refine nR (.bool false) (ix_pickT rfl rfl rfl) ?_;simp only [zz]
            have hx2 : x2 = ⟨xq, xa, xf, true, max xg ag⟩ := by rw [HNS.out, if_neg (by simp [hgt])]
            subst hx2
            go_upto_region 12 with fail
            refine wp_region_lit ?_
            refine nR (.int .i64 ((m + 1 : Nat) : Int)) (ix_add rfl rfl rfl (by omega) (by omega)) ?_;simp only [zz];refine nR (.int .i64 ((m + 1 : Nat) : Int)) (exec_move rfl rfl) ?_;simp only [zz]
            go_wp2_with fail
            go_roundg (2 - (m + 1))
            case measure => have := HGK.out; have := HLT.out; omega
            case rel => exact ⟨m + 1, _, rfl, by have := HLT.out; omega, rfl, HNX.out, HBN5.out, HBK5.out, HBR5.out, .inr HON.out, HTw5.out⟩
  · obtain rfl : m = 2 := by have := HGK.out; omega
    go_upto_region 4 with fail
    refine wp_region_lit ?_
    refine nR (.bool false) (ix_lss rfl rfl rfl (by decide)) ?_;simp only [zz]
    go_upto_region 13 with fail
    refine wp_region_lit ?_
    refine nR (.int .i64 (x.g : Int)) (exec_move rfl rfl) ?_;simp only [zz];refine nR (.pointer (some ⟨n, 1, none⟩)) (exec_field (off := 0) (d := 1) rfl rfl (by kernel_rfl)) ?_;simp only [zz]
    refine wpList_storeU 1 (.int .i64 (x.g : Int)) (wanted_none rfl) 3 (.tmp 44) (.tmp 43) rfl HBN.out rfl rfl (by show 1 < 4; decide) ⟨rfl, rfl⟩ size_int ?_
    intro w6 hb ht
    have HBN6 := Lib.hid (show Blk w6 n 62 (hdA x.q x.g x.f x.wh) from hb)
    have HBR6 := Lib.hid (HBR.out.turn (F := only n) ht fun e => HNrn.out e)
    have HT6 := Lib.hid (HTR.out.trans ht fun k hk e => by have := HLnw.out; have e : k = n := e; omega)
    clear hb ht
    simp only [zz]
    go_upto_region 14 with fail
    refine wp_region_lit ?_
    refine nR (.agg (hdA x.q x.g x.f x.wh)) (gx_loads rfl rfl (blk_range HBN6.out) Tryd.underlying62 rfl (by rw [size_hdr]; rfl)) ?_;simp only [zz]
    refine wpList_store_row (wanted_none rfl) 62 (.tmp 2) (.tmp 45) rfl (hdA x.q x.g x.f x.wh) HBR6.out rfl rfl (rfl) (by rw [size_hdr] <;> rfl) (hdA_one _ _ _ _) ?_
    intro wz hb_ ht_
    have HBz := Lib.hid hb_
    have HTz := Lib.hid ht_
    clear hb_ ht_
    simp only [zz];refine nR (.int .i64 0) (gx_assign rfl rfl) ?_;simp only [zz]
    go_wp2_with fail
    refine bodyPost_ret (v := .tuple #[.agg (hdA x.q x.g x.f x.wh), .int .i64 0]) (ret_cell2 rfl _ _ r 62 _ _ rfl rfl HBz.out Tryd.underlying62 rfl (by rw [size_hdr]; rfl)) rfl ?_
    exact ⟨HT6.out.trans HTz.out fun k hk e => by have := HLr.out; have e : k = r := e; omega, .inr ⟨HOX.out.resolve_left (by decide), x, HNW.out, rfl⟩⟩
end Go.Proofs.YtelipeoilcepbaaDoor
