/-
  Texts in one file: WmH. Conditions: the tables and the errors read as the program's text lays them.
-/
import Derived.Test.YtelipeoilcepbaaDoorWp0
import Derived.Test.YtelipeoilcepbaaDoorWp27
namespace Go.Proofs.YtelipeoilcepbaaDoor
open Go.RowKit
open Wl (B8)
set_option linter.unusedVariables false
set_option linter.unusedSimpArgs false
set_option maxRecDepth 20000
def fmtK (K j : Nat) : Nat := if j ≤ 2 then K + 2 * j else K + 65600
theorem segs_room {s : AP} {i : Nat} {d : AD} (hd : s.ds[i]? = some d) (h : segsP s i ≠ 0) : ((2 + 64 * segsP s i : Nat) : Int) ≤ d.n ∧ 4 ≤ segsP s i := by
  rw [segsP_at hd] at h ⊢
  unfold segsN at h ⊢
  split at h
  · omega
  · rw [if_neg (by omega)]
    omega
theorem segs_in {s : AP} {dev : Int} (h : segsP s dev ≠ 0) : ∃ (i : Nat) (d : AD), dev = (i : Int) ∧ s.ds[i]? = some d := by
  by_cases hin : 0 ≤ dev ∧ dev < s.ds.length
  · obtain ⟨i, rfl⟩ := Int.eq_ofNat_of_zero_le hin.1
    exact ⟨i, _, rfl, List.getElem?_eq_getElem (by omega)⟩
  · exact absurd (segsP_bad hin) h
theorem fmtK_succ {K S j : Nat} (hj : j < 3) (hS : 64 * S ≤ 65534) : fmtK K j + fmtC S j + 1 ≤ fmtK K (j + 1) := by
  match j, hj with
  | 0, _ => simp [fmtK, fmtC]
  | 1, _ => simp [fmtK, fmtC]
  | 2, _ => simp [fmtK, fmtC]; omega
theorem fmtK_le {K j : Nat} : K ≤ fmtK K j ∧ fmtK K j ≤ K + 65600 := by unfold fmtK; split <;> omega
theorem tab_turn {w w' : World} {F : Nat → Prop} (h : Tab w) (ht : Turn F w w') (hF : ¬ F 0) : Tab w' := fun k hk => by
  have := h k hk
  rw [ht.cell (World.block_lt_of_cell? _ _ this) hF]
  exact this
theorem fmt_fit {q S j : Nat} {n : Int} (hj : j < 3) (hq : q ≤ 1) (hn : ((2 + 64 * S : Nat) : Int) ≤ n) (hS : 4 ≤ S) : ((fmtA q j + fmtC S j : Nat) : Int) ≤ n ∧ 0 < fmtC S j := by
  match j, hj with
  | 0, _ => simp [fmtA, fmtC]; omega
  | 1, _ => simp [fmtA, fmtC]; omega
  | 2, _ => simp [fmtA, fmtC]; omega
theorem laid_e {N : Wl.Disk} {i : Nat} {d : AD} {s s' : AP} {e : Int} (h : WLaid N i d s e s') : e = 0 ↔ s'.on = true := by
  rcases h with ⟨h1, _, h2, _⟩ | ⟨h1, h2, _⟩
  · simp [h1, h2]
  · simp [h1, h2]
theorem rows_at (q S j : Nat) (hj : j < 3) : ∀ (u : Nat) (v : Value), (twoA (fmtA q j) (fmtC S j)).toList[u]? = some v → (#[.int .i64 ((1 - q : Nat) : Int), .int .i64 1, .int .i64 (q : Int), .int .i64 1, .int .i64 2, .int .i64 ((64 * S : Nat) : Int)] : Array Value)[0 + j * 2 + u]? = some v := by
  intro u v h
  match j, hj with
  | 0, _ => match u, h with
    | 0, h => exact h
    | 1, h => exact h
    | u + 2, h => simp [twoA] at h
  | 1, _ => match u, h with
    | 0, h => exact h
    | 1, h => exact h
    | u + 2, h => simp [twoA] at h
  | 2, _ => match u, h with
    | 0, h => exact h
    | 1, h => exact h
    | u + 2, h => simp [twoA] at h
set_option maxRecDepth 20000 in
set_option maxHeartbeats 4000000 in
theorem Format_walk {w : World} {p : Nat} {F : Nat → Prop} {s : AP} {K : Nat} (h : PlantAt w p F s K) (htab : Tab w) (dev : Int) (hTF : ¬ F 0) (hK : K + 65700 < 1099511627775) :
    Calls Tryd.prog 24 #[.pointer (some ⟨p, 0, none⟩), .int .i64 dev] w fun r w' => FormatP w F p dev s K r w' := by
  have HPL := Lib.hid h
  have HTAB := Lib.hid htab
  clear h htab
  go_enter Tryd.func24, Tryd.ntmps24
  go_upto_region 0 with fail
  refine wp_region_lit ?_
  refine nR (.int .i64 0) (gx_assign rfl rfl) ?_;simp only [zz]
  go_upto_region 1 with fail
  refine wp_region_lit ?_
  refine nR (.pointer (some ⟨p, 0, none⟩)) (exec_move rfl rfl) ?_;simp only [zz];refine nR (.int .i64 dev) (exec_move rfl rfl) ?_;simp only [zz];refine nR (.agg (dskV p dev)) (gx_build2 rfl rfl rfl (build_dsk _ _ _)) ?_;simp only [zz];refine wpList_run (v := .pointer (some ⟨w.heap.size, 0, none⟩)) (w' := w.alloc (.cells #[.pointer none, .int .i64 0] 60)) (wanted_none rfl) (gx_alloc rfl (zero_dsk _)) ?_;simp only [zz]
  have hb_ := Blk.new w 60 #[.pointer none, .int .i64 0]
  have ht_ := (Turn.refl nowhere w).alloc (.cells #[.pointer none, .int .i64 0] 60)
  obtain ⟨k, hg_⟩ : ∃ g, g = w.heap.size := ⟨_, rfl⟩
  rw [← hg_] at hb_ ⊢
  have HLk := Lib.hid (show w.heap.size ≤ k from by omega)
  clear hg_
  generalize w.alloc (.cells #[.pointer none, .int .i64 0] 60) = w1 at *
  have HBk := Lib.hid hb_
  have HT1 := Lib.hid ht_
  clear hb_ ht_
  refine wpList_store_row (wanted_none rfl) 60 (.tmp 5) (.tmp 14) rfl (dskV p dev) HBk.out rfl rfl (rfl) (by rw [size_dsk] <;> rfl) (dskV_one _ _) ?_
  intro w2 hb_ ht_
  have HBk2 := Lib.hid hb_
  have HT2 := Lib.hid ht_
  clear hb_ ht_
  simp only [zz]
  have HT2w := Lib.hid (HT1.out.trans HT2.out fun b hb e => by have := HLk.out; have e : b = k := e; omega)
  clear HT1 HT2 HBk
  go_upto_region 2 with fail
  refine wp_region_lit ?_
  refine nR (.agg (dskV p dev)) (gx_loads rfl rfl (blk_range HBk2.out) Tryd.underlying60 rfl (by rw [size_dsk]; rfl)) ?_;simp only [zz]
  refine wpList_op rfl fun K9 HK9 => ?_
  go_wp2_with fail
  refine (segments_walk (HPL.out.turn HT2w.out fun _ _ e => e) dev).mono ?_
  rintro e w3 ⟨rfl, ht⟩
  refine HK9.out _ _ ?_
  clear HK9
  try simp only [zz]
  have HT3 := Lib.hid (HT2w.out.trans ht fun _ _ e => e)
  have HBk3 := Lib.hid (HBk2.out.turn ht fun e => e)
  clear ht HT2w HBk2
  obtain ⟨S, hS⟩ : ∃ S, S = segsP s dev := ⟨_, rfl⟩
  rw [← hS]
  have HS := Lib.hid hS
  clear hS
  refine nR (.int .i64 (S : Int)) (gx_assign rfl rfl) ?_;simp only [zz]
  by_cases hS0 : S = 0
  · go_upto_region 3 with fail
    refine wp_region_lit ?_
    refine nR (.int .i64 (S : Int)) (exec_move rfl rfl) ?_;simp only [zz];refine nR (.bool true) (ix_eql rfl rfl rfl (decide_eq_true (by omega))) ?_;simp only [zz]
    go_upto_region 4 with fail
    refine wp_region_lit ?_
    refine nR (.int .i64 1) (gx_assign rfl rfl) ?_;simp only [zz]
    go_wp2_with fail
    go_ret
    exact .inl ⟨HS.out ▸ hS0, rfl, HT3.out⟩
  · go_upto_region 3 with fail
    refine wp_region_lit ?_
    refine nR (.int .i64 (S : Int)) (exec_move rfl rfl) ?_;simp only [zz];refine nR (.bool false) (ix_eql rfl rfl rfl (decide_eq_false (by omega))) ?_;simp only [zz]
    have hSn : segsP s dev ≠ 0 := by rw [← HS.out]; exact hS0
    have HSN := Lib.hid hSn
    obtain ⟨i, d, rfl, hd⟩ := segs_in hSn
    have HD := Lib.hid hd
    have hrm := segs_room hd hSn
    rw [← HS.out] at hrm
    have hdn := HPL.out.dn hd
    have yS : 4 ≤ S ∧ 2 + 64 * S ≤ 65536 := by omega
    have HRM := Lib.hid hrm.1
    have y2 : 2 ≤ d.n := by omega
    clear hd hrm hdn hSn
    go_upto_region 5 with fail
    refine wp_region_lit ?_
    refine nR (.agg (dskV p i)) (gx_loads rfl rfl (blk_range HBk3.out) Tryd.underlying60 rfl (by rw [size_dsk]; rfl)) ?_;simp only [zz]
    refine wpList_op (wanted_none rfl) fun K9 HK9 => ?_
    go_wp2_with fail
    refine (newestHeader_walk (HPL.out.turn HT3.out fun _ _ e => e) (tab_still HTAB.out HT3.out) i d HD.out y2).mono ?_
    rintro e w4 ⟨ht, hcase⟩
    have HT4 := Lib.hid (HT3.out.trans ht fun _ _ e => e)
    have HBk4 := Lib.hid (HBk3.out.turn ht fun e => e)
    clear ht HT3 HBk3
    rcases hcase with ⟨hoff, rfl⟩ | ⟨hon, x, hx, rfl⟩
    · refine HK9.out _ _ ?_
      clear HK9
      try simp only [zz]
      refine nR (.tuple #[.agg (hdA 0 0 0 false), .int .i64 2]) (exec_move rfl rfl) ?_;simp only [zz];refine nR (.agg (hdA 0 0 0 false)) (ix_extract rfl rfl rfl) ?_;simp only [zz];refine nR (.int .i64 2) (ix_extract rfl rfl rfl) ?_;simp only [zz];refine wpList_run (v := .pointer (some ⟨w4.heap.size, 0, none⟩)) (w' := w4.alloc (.cells (hdA 0 0 0 false) 62)) (wanted_none rfl) (gx_alloc rfl (zero_hdr _)) ?_;simp only [zz]
      have hb_ := Blk.new w4 62 (hdA 0 0 0 false)
      have ht_ := (Turn.refl nowhere w4).alloc (.cells (hdA 0 0 0 false) 62)
      obtain ⟨m, hg_⟩ : ∃ g, g = w4.heap.size := ⟨_, rfl⟩
      rw [← hg_] at hb_ ⊢
      have HLm := Lib.hid (show w4.heap.size ≤ m from by omega)
      clear hg_
      generalize w4.alloc (.cells (hdA 0 0 0 false) 62) = w5 at *
      have HBm := Lib.hid hb_
      have HT5 := Lib.hid ht_
      clear hb_ ht_
      refine wpList_store_row (wanted_none rfl) 62 (.tmp 7) (.tmp 22) rfl (hdA 0 0 0 false) HBm.out rfl rfl (rfl) (by rw [size_hdr] <;> rfl) (hdA_one _ _ _ _) ?_
      intro w6 hb_ ht_
      have HBm6 := Lib.hid hb_
      have HT6 := Lib.hid ht_
      clear hb_ ht_
      simp only [zz]
      have HT46 := Lib.hid (HT5.out.trans HT6.out fun b hb e => by have := HLm.out; have e : b = m := e; omega)
      have HT6w := Lib.hid (HT4.out.trans HT46.out fun _ _ e => e)
      have HBk6 := Lib.hid (HBk4.out.turn HT46.out fun e => e)
      clear HT5 HT6 HT46 HT4 HBk4 HBm
      refine nR (.int .i64 2) (gx_assign rfl rfl) ?_;simp only [zz]
      go_upto_region 6 with fail
      refine wp_region_lit ?_
      refine nR (.int .i64 2) (exec_move rfl rfl) ?_;simp only [zz];refine nR (.bool true) (ix_neq rfl rfl rfl (by decide)) ?_;simp only [zz]
      go_upto_region 7 with fail
      refine wp_region_lit ?_
      refine nR (.int .i64 2) (exec_move rfl rfl) ?_;simp only [zz];refine nR (.int .i64 2) (gx_assign rfl rfl) ?_;simp only [zz]
      go_wp2_with fail
      go_ret
      exact .inr (.inl ⟨HSN.out, hoff, rfl, HT6w.out⟩)
    · have HX := Lib.hid hx
      have HON := Lib.hid hon
      have yq : x.q ≤ 1 := hx.q_lt
      clear hx hon
      refine HK9.out _ _ ?_
      clear HK9
      try simp only [zz]
      refine nR (.tuple #[.agg (hdA x.q x.g x.f x.wh), .int .i64 0]) (exec_move rfl rfl) ?_;simp only [zz];refine nR (.agg (hdA x.q x.g x.f x.wh)) (ix_extract rfl rfl rfl) ?_;simp only [zz];refine nR (.int .i64 0) (ix_extract rfl rfl rfl) ?_;simp only [zz];refine wpList_run (v := .pointer (some ⟨w4.heap.size, 0, none⟩)) (w' := w4.alloc (.cells (hdA 0 0 0 false) 62)) (wanted_none rfl) (gx_alloc rfl (zero_hdr _)) ?_;simp only [zz]
      have hb_ := Blk.new w4 62 (hdA 0 0 0 false)
      have ht_ := (Turn.refl nowhere w4).alloc (.cells (hdA 0 0 0 false) 62)
      obtain ⟨m, hg_⟩ : ∃ g, g = w4.heap.size := ⟨_, rfl⟩
      rw [← hg_] at hb_ ⊢
      have HLm := Lib.hid (show w4.heap.size ≤ m from by omega)
      clear hg_
      generalize w4.alloc (.cells (hdA 0 0 0 false) 62) = w5 at *
      have HBm := Lib.hid hb_
      have HT5 := Lib.hid ht_
      clear hb_ ht_
      refine wpList_store_row (wanted_none rfl) 62 (.tmp 7) (.tmp 22) rfl (hdA x.q x.g x.f x.wh) HBm.out rfl rfl (rfl) (by rw [size_hdr] <;> rfl) (hdA_one _ _ _ _) ?_
      intro w6 hb_ ht_
      have HBm6 := Lib.hid hb_
      have HT6 := Lib.hid ht_
      clear hb_ ht_
      simp only [zz]
      have HT46 := Lib.hid (HT5.out.trans HT6.out fun b hb e => by have := HLm.out; have e : b = m := e; omega)
      have HT6w := Lib.hid (HT4.out.trans HT46.out fun _ _ e => e)
      have HBk6 := Lib.hid (HBk4.out.turn HT46.out fun e => e)
      clear HT5 HT6 HT46 HT4 HBk4 HBm
      refine nR (.int .i64 0) (gx_assign rfl rfl) ?_;simp only [zz]
      go_upto_region 6 with fail
      refine wp_region_lit ?_
      refine nR (.int .i64 0) (exec_move rfl rfl) ?_;simp only [zz];refine nR (.bool false) (ix_neq rfl rfl rfl (by decide)) ?_;simp only [zz]
      go_upto_region 8 with fail
      refine wp_region_alw (fun W => Blk W m 62 (hdA x.q x.g x.f x.wh)) (by kernel_rfl) ?_
      have hS0 : (fun W => Blk W m 62 (hdA x.q x.g x.f x.wh)) w6.drew := HBm6.out.drew
      have HD8 := Lib.hid ((Turn.refl nowhere w6).drew)
      generalize w6.drew = w7 at *
      have HT7 := Lib.hid (HT6w.out.trans HD8.out fun _ _ e => e)
      have HBk7 := Lib.hid (HBk6.out.turn HD8.out fun e => e)
      clear HT6w HBk6 HD8 HBm6
      refine alw_take (i := 0) (v := .pointer (some ⟨m, 0, none⟩)) rfl (by kernel_rfl) (by kernel_rfl) (fun _ _ _ h => h) (.inl ⟨by rfl, fun W hW => exec_field (off := 0) (d := 0) rfl rfl (by kernel_rfl)⟩) hS0 ?_
      simp only [zz]
      refine alw_take (i := 1) (v := .int .i64 (x.q : Int)) rfl (by kernel_rfl) (by kernel_rfl) (fun _ _ _ h => h) (.inl ⟨by rfl, fun W hW => exec_load1 rfl rfl (by kernel_rfl) (hW.cell 0)⟩) hS0 ?_
      simp only [zz]
      refine alw_take (i := 4) (v := .pointer (some ⟨m, 0, none⟩)) rfl (by kernel_rfl) (by kernel_rfl) (fun _ _ _ h => h) (.inl ⟨by rfl, fun W hW => exec_field (off := 0) (d := 0) rfl rfl (by kernel_rfl)⟩) hS0 ?_
      simp only [zz]
      refine alw_take (i := 5) (v := .int .i64 (x.q : Int)) rfl (by kernel_rfl) (by kernel_rfl) (fun _ _ _ h => h) (.inl ⟨by rfl, fun W hW => exec_load1 rfl rfl (by kernel_rfl) (hW.cell 0)⟩) hS0 ?_
      simp only [zz]
      refine alw_take (i := 6) (v := .agg #[.int .i64 (x.q : Int), .int .i64 1]) rfl (by kernel_rfl) (by kernel_rfl) (fun _ _ _ h => h) (.inl ⟨by rfl, fun W hW => gx_build2 rfl rfl rfl (build_two2 _ _ _)⟩) hS0 ?_
      simp only [zz]
      refine alw_take (i := 7) (v := .int .i64 (S : Int)) rfl (by kernel_rfl) (by kernel_rfl) (fun _ _ _ h => h) (.inl ⟨by rfl, fun W hW => exec_move rfl rfl⟩) hS0 ?_
      simp only [zz]
      refine alw_take (i := 8) (v := .int .i64 ((64 * S : Nat) : Int)) rfl (by kernel_rfl) (by kernel_rfl) (fun _ _ _ h => h) (.inl ⟨by rfl, fun W hW => ix_mul rfl rfl rfl (by omega) (by omega)⟩) hS0 ?_
      simp only [zz]
      refine alw_take (i := 9) (v := .agg #[.int .i64 2, .int .i64 ((64 * S : Nat) : Int)]) rfl (by kernel_rfl) (by kernel_rfl) (fun _ _ _ h => h) (.inl ⟨by rfl, fun W hW => gx_build2 rfl rfl rfl (build_two2 _ _ _)⟩) hS0 ?_
      simp only [zz]
      refine alw_take (i := 12) (v := .int .i64 0) rfl (by kernel_rfl) (by kernel_rfl) (fun _ _ _ h => h) (.inl ⟨by rfl, fun W hW => exec_move rfl rfl⟩) hS0 ?_
      simp only [zz]
      refine alw_step (i := 2) (by kernel_rfl) rfl rfl ?_
      intro K1 HK1
      go_wp2_with fail
      refine (other_walk w7 x.q yq).mono ?_
      rintro e w7 ⟨rfl, rfl⟩

      refine HK1.out _ _ ⟨hS0, ?_⟩
      clear HK1
      try simp only [zz]
      refine alw_take (i := 3) (v := .agg #[.int .i64 ((1 - x.q : Nat) : Int), .int .i64 1]) rfl (by kernel_rfl) (by kernel_rfl) (fun _ _ _ h => h) (.inl ⟨by rfl, fun W hW => gx_build2 rfl rfl rfl (build_two2 _ _ _)⟩) hS0 ?_
      simp only [zz]
      have ha_ := (Turn.refl nowhere w7).alloc (.cells #[.int .i64 ((1 - x.q : Nat) : Int), .int .i64 1, .int .i64 (x.q : Int), .int .i64 1, .int .i64 2, .int .i64 ((64 * S : Nat) : Int)] 89)
      have hb_ := Blk.new w7 89 #[.int .i64 ((1 - x.q : Nat) : Int), .int .i64 1, .int .i64 (x.q : Int), .int .i64 1, .int .i64 2, .int .i64 ((64 * S : Nat) : Int)]
      refine alw_step (i := 10) (by kernel_rfl) rfl rfl ?_
      intro K1 HK1
      refine wp_run (v := .slice (some ⟨w7.heap.size, 0, none⟩) 3 3) (w' := w7.alloc (.cells #[.int .i64 ((1 - x.q : Nat) : Int), .int .i64 1, .int .i64 (x.q : Int), .int .i64 1, .int .i64 2, .int .i64 ((64 * S : Nat) : Int)] 89)) (gx_slice3 rfl rfl rfl rfl (build_rows _ _ _ _ _ _ _)) ?_
      have hSx : Blk (w7.alloc (.cells #[.int .i64 ((1 - x.q : Nat) : Int), .int .i64 1, .int .i64 (x.q : Int), .int .i64 1, .int .i64 2, .int .i64 ((64 * S : Nat) : Int)] 89)) m 62 (hdA x.q x.g x.f x.wh) := hS0.turn ha_ fun e => e
      refine HK1.out _ _ ⟨hSx, ?_⟩
      clear HK1
      try simp only [zz]
      obtain ⟨t, ht⟩ : ∃ t, t = w7.heap.size := ⟨_, rfl⟩
      rw [← ht] at hb_ ⊢
      have HTF := Lib.hid (show ¬ F t from fun e => by have := HPL.out.lt e; have := HT7.out.size; omega)
      have HT8 := Lib.hid (HT7.out.trans ha_ fun _ _ e => e)
      have HBk8 := Lib.hid (HBk7.out.turn ha_ fun e => e)
      have HBt8 := Lib.hid hb_
      clear ht hb_ ha_ HT7 HBk7
      generalize w7.alloc (.cells #[.int .i64 ((1 - x.q : Nat) : Int), .int .i64 1, .int .i64 (x.q : Int), .int .i64 1, .int .i64 2, .int .i64 ((64 * S : Nat) : Int)] 89) = w8 at *
      refine alw_take (i := 11) (v := .int .i64 3) rfl (by kernel_rfl) (by kernel_rfl) (fun _ _ _ h => h) (.inl ⟨by rfl, fun W hW => gx_len rfl rfl Tryd.underlying90⟩) hSx ?_
      simp only [zz]
      refine alw_done rfl ?_
      refine NoPanic.normal ?_
      clear hS0 hSx
      try simp only [zz]
      have HFk := Lib.hid (show ¬ F k from fun e => by have := HPL.out.lt e; have := HLk.out; omega)
      have HK8 := Lib.hid HBk8.out.lt
      have HTW := Lib.hid (show 0 < w.heap.size from World.block_lt_of_cell? _ _ (HTAB.out 0 (by omega)))
      have HT8t := Lib.hid HBt8.out.lt
      have HS8 := Lib.hid HT8.out.size
      go_wp2_with fail
      go_loopg [39] 3 (fun gk iv wr => ∃ (j : Nat) (Fr : Nat → Prop) (sr : AP) (dr : AD), iv = .int .i64 (j : Int) ∧ j + gk = 3 ∧ PlantAt wr p Fr sr (fmtK K j) ∧ Fmt (dkD d) x.q S i d s j sr dr ∧ (∀ b, Fr b → F b ∨ w8.heap.size ≤ b) ∧ Blk wr k 60 (dskV p i) ∧ Blk wr t 89 #[.int .i64 ((1 - x.q : Nat) : Int), .int .i64 1, .int .i64 (x.q : Int), .int .i64 1, .int .i64 2, .int .i64 ((64 * S : Nat) : Int)] ∧ Tab wr ∧ w8.heap.size ≤ wr.heap.size ∧ Turn F w wr)
      case atStart => exact ⟨0, F, s, d, rfl, rfl, HPL.out.turn HT8.out fun _ _ e => e, ⟨rfl, (set_same HD.out).symm, rfl, fun h => h.elim (fun h => by omega) id, rfl, fun _ => rfl⟩, fun _ e => .inl e, HBk8.out, HBt8.out, tab_still HTAB.out HT8.out, Nat.le_refl _, HT8.out.mono fun _ _ e => e.elim⟩
      clear HBk8 HBt8 HT8
      obtain ⟨j, Fr, sr, dr, rfl, hgk, hpl, hfm, hFr, hbk, hbt, htb, hsz, htr⟩ := hrel
      have HGK := Lib.hid hgk
      have HPR := Lib.hid hpl
      have HFM := Lib.hid hfm
      have HFR := Lib.hid hFr
      have HBK := Lib.hid hbk
      have HBT := Lib.hid hbt
      have HTB := Lib.hid htb
      have HSZ := Lib.hid hsz
      have HTR := Lib.hid htr
      have HDR := Lib.hid (hfm.at_ HD.out)
      have HDN := Lib.hid hfm.n
      have yj : j ≤ 3 := by omega
      have hkk := fmtK_le (K := K) (j := j)
      have HRk := Lib.hid (show ¬ Fr k from fun e => by rcases hFr _ e with e | e; exact HFk.out e; have := HK8.out; omega)
      have HRt := Lib.hid (show ¬ Fr t from fun e => by rcases hFr _ e with e | e; exact HTF.out e; have := HT8t.out; omega)
      have HRg := Lib.hid (show ¬ Fr 0 from fun e => by rcases hFr _ e with e | e; exact hTF e; have := HTW.out; have := HS8.out; omega)
      have HFMS := Lib.hid (show Fmt (dkD d) x.q (segsP s i) i d s j sr dr from by rw [← HS.out]; exact hfm)
      clear hgk hpl hfm hFr hbk hbt htb hsz htr
      by_cases hlt : j < 3
      · have y3 : (j : Int) < 3 := by omega
        have HJ := Lib.hid hlt
        have HFIT := Lib.hid (fmt_fit (q := x.q) (S := S) hlt yq HRM.out yS.1)
        have HKS := Lib.hid (fmtK_succ (K := K) (S := S) hlt (by omega))
        have yfa : ((fmtA x.q j : Nat) : Int) ≤ 65536 := by have := HFIT.out.1; have := HPL.out.dn HD.out; omega
        go_upto_region 9 with fail
        refine wp_region_lit ?_
        refine nR (.bool true) (ix_lss rfl rfl rfl (decide_eq_true y3)) ?_;simp only [zz]
        go_upto_region 10 with fail
        refine wp_region_lit ?_
        refine nR (.pointer (some ⟨t, 0 + j * 2, none⟩)) (gx_iaddr (i := j) (sz := 2) rfl rfl rfl Tryd.underlying90 size_two HJ.out rfl) ?_;simp only [zz];refine nR (.agg (twoA (fmtA x.q j) (fmtC S j))) (gx_loads rfl rfl (range_of_blk HBT.out (0 + j * 2) _ (rows_at x.q S j HJ.out)) Tryd.underlying89 rfl (by rw [size_two]; rfl)) ?_;simp only [zz];refine wpList_run (v := .pointer (some ⟨wr.heap.size, 0, none⟩)) (w' := wr.alloc (.cells (twoA 0 0) 89)) (wanted_none rfl) (gx_alloc rfl (zero_two _)) ?_;simp only [zz]
        have hb_ := Blk.new wr 89 (twoA 0 0)
        have ht_ := (Turn.refl nowhere wr).alloc (.cells (twoA 0 0) 89)
        obtain ⟨u, hg_⟩ : ∃ g, g = wr.heap.size := ⟨_, rfl⟩
        rw [← hg_] at hb_ ⊢
        have HLu := Lib.hid (show wr.heap.size ≤ u from by omega)
        clear hg_
        generalize wr.alloc (.cells (twoA 0 0) 89) = wa at *
        have HBu := Lib.hid hb_
        have HTa := Lib.hid ht_
        clear hb_ ht_
        refine wpList_store_row (wanted_none rfl) 89 (.tmp 10) (.tmp 42) rfl (twoA (fmtA x.q j) (fmtC S j)) HBu.out rfl rfl (rfl) (by rw [size_two] <;> rfl) (twoA_one _ _) ?_
        intro wb hb_ ht_
        have HBu2 := Lib.hid hb_
        have HTb := Lib.hid ht_
        clear hb_ ht_
        simp only [zz]
        have HTab := Lib.hid (HTa.out.trans HTb.out fun b hb e => by have := HLu.out; have e : b = u := e; omega)
        have HPb := Lib.hid (HPR.out.turn HTab.out fun _ _ e => e)
        have HBKb := Lib.hid (HBK.out.turn HTab.out fun e => e)
        have HBTb := Lib.hid (HBT.out.turn HTab.out fun e => e)
        have HTBb := Lib.hid (tab_still HTB.out HTab.out)
        have HTc := Lib.hid (HTR.out.trans (HTab.out.mono fun _ _ e => e.elim) fun _ _ e => e)
        have HSc := Lib.hid (Nat.le_trans HSZ.out HTab.out.size)
        clear HTa HTb HTab HPR HBK HBT HTB HTR HSZ HBu HLu
        go_upto_region 11 with fail
        refine wp_region_lit ?_
        refine nR (.agg (dskV p i)) (gx_loads rfl rfl (blk_range HBKb.out) Tryd.underlying60 rfl (by rw [size_dsk]; rfl)) ?_;simp only [zz];refine nR (.pointer (some ⟨u, 0, none⟩)) (gx_aaddr (i := 0) (sz := 1) rfl rfl rfl Tryd.underlying89 size_int (by omega) rfl) ?_;simp only [zz];refine nR (.int .i64 ((fmtA x.q j : Nat) : Int)) (exec_load1 rfl rfl (by kernel_rfl) (HBu2.out.cell 0)) ?_;simp only [zz];refine nR (.pointer (some ⟨u, 1, none⟩)) (gx_aaddr (i := 1) (sz := 1) rfl rfl rfl Tryd.underlying89 size_int (by omega) rfl) ?_;simp only [zz];refine nR (.int .i64 ((fmtC S j : Nat) : Int)) (exec_load1 rfl rfl (by kernel_rfl) (HBu2.out.cell 1)) ?_;simp only [zz]
        refine wpList_op rfl fun K9 HK9 => ?_
        go_wp2_with fail
        refine (erase_walk HPb.out i dr HDR.out (fmtA x.q j) (fmtC S j) (by rw [HDN.out]; exact HFIT.out.1) HFIT.out.2 (by have := HKS.out; have := fmtK_le (K := K) (j := j + 1); omega)).mono ?_
        rintro e w9 ⟨e9, s9, rfl, hl, hgo⟩
        refine HK9.out _ _ ?_
        clear HK9
        try simp only [zz]
        rw [HFM.out.dk, ← fmtN_succ HJ.out] at hl
        obtain ⟨F9, hp9, ht9, hf9⟩ := hgo
        have HL9 := Lib.hid hl
        have HP9 := Lib.hid hp9
        have HT9 := Lib.hid (HTc.out.trans ht9 (fun b hb e => (HFR.out b e).elim id fun e => absurd hb (by have := HS8.out; omega)))
        have HF9 := Lib.hid (show ∀ b, F9 b → F b ∨ w.heap.size ≤ b from fun b e => (hf9 b e).elim (fun e => (HFR.out b e).imp id fun e => Nat.le_trans HS8.out e) fun e => .inr (Nat.le_trans (Nat.le_trans HS8.out HSc.out) e))
        refine nR (.int .i64 e9) (gx_assign rfl rfl) ?_;simp only [zz]
        have ykk := fmtK_le (K := K) (j := j + 1)
        have yks := HKS.out
        by_cases he : e9 = 0
        · subst he
          obtain ⟨d9, hfm9⟩ := HFM.out.next HL9.out
          have HFM9 := Lib.hid hfm9
          have HP99 := Lib.hid (hp9.mono yks)
          have HFR9 := Lib.hid (show ∀ b, F9 b → F b ∨ w8.heap.size ≤ b from fun b e => (hf9 b e).elim (HFR.out b) fun e => .inr (Nat.le_trans HSc.out e))
          have HBK9 := Lib.hid (HBKb.out.turn ht9 HRk.out)
          have HBT9 := Lib.hid (HBTb.out.turn ht9 HRt.out)
          have HTB9 := Lib.hid (tab_turn HTBb.out ht9 HRg.out)
          have HSZ9 := Lib.hid (Nat.le_trans HSc.out ht9.size)
          clear hp9 ht9 hf9 hfm9
          go_upto_region 12 with fail
          refine wp_region_lit ?_
          refine nR (.int .i64 0) (exec_move rfl rfl) ?_;simp only [zz];refine nR (.bool false) (ix_neq rfl rfl rfl (by decide)) ?_;simp only [zz]
          go_upto_region 14 with fail
          refine wp_region_lit ?_
          refine nR (.int .i64 ((j + 1 : Nat) : Int)) (ix_add rfl rfl rfl (by omega) (by omega)) ?_;simp only [zz];refine nR (.int .i64 ((j + 1 : Nat) : Int)) (exec_move rfl rfl) ?_;simp only [zz]
          go_wp2_with fail
          go_roundg (3 - (j + 1))
          case measure => have := HGK.out; have := HJ.out; omega
          case rel => exact ⟨j + 1, F9, s9, d9, rfl, by have := HJ.out; omega, HP99.out, HFM9.out, HFR9.out, HBK9.out, HBT9.out, HTB9.out, HSZ9.out, HT9.out⟩
        · go_upto_region 12 with fail
          refine wp_region_lit ?_
          refine nR (.int .i64 e9) (exec_move rfl rfl) ?_;simp only [zz];refine nR (.bool true) (ix_neq rfl rfl rfl (decide_eq_true he)) ?_;simp only [zz]
          go_upto_region 13 with fail
          refine wp_region_lit ?_
          refine nR (.int .i64 e9) (exec_move rfl rfl) ?_;simp only [zz];refine nR (.int .i64 e9) (gx_assign rfl rfl) ?_;simp only [zz]
          go_wp2_with fail
          go_ret
          exact .inr (.inr ⟨HSN.out, HON.out, i, d, x, j, sr, dr, e9, s9, F9, rfl, HD.out, HX.out, yj, HFMS.out, by rw [← HS.out]; exact HL9.out, ⟨fun h => absurd h he, fun h => by omega⟩, rfl, HP9.out.mono (by omega), HT9.out, HF9.out⟩)
      · obtain rfl : j = 3 := by omega
        go_upto_region 9 with fail
        refine wp_region_lit ?_
        refine nR (.bool false) (ix_lss rfl rfl rfl (by decide)) ?_;simp only [zz]
        go_upto_region 15 with fail
        refine wp_region_lit ?_
        refine nR (.agg (dskV p i)) (gx_loads rfl rfl (blk_range HBK.out) Tryd.underlying60 rfl (by rw [size_dsk]; rfl)) ?_;simp only [zz];refine nR (.agg (hdA 0 1 0 false)) (gx_buildAt1 rfl rfl (build_hd1 _)) ?_;simp only [zz]
        refine wpList_op rfl fun K9 HK9 => ?_
        go_wp2_with fail
        refine (layHeader_walk HPR.out HTB.out i dr HDR.out 0 1 0 false (by rw [HDN.out]; omega) (by omega) (by omega) (by omega)).mono ?_
        rintro e w9 ⟨e9, s9, rfl, hl, hgo⟩
        refine HK9.out _ _ ?_
        clear HK9
        try simp only [zz]
        rw [HFM.out.dk] at hl
        have hl : WLaid (fmtN (dkD d) x.q S (3 + 1)) i dr sr e9 s9 := hl
        obtain ⟨F9, hp9, ht9, hf9⟩ := hgo
        have HL9 := Lib.hid hl
        have HP9 := Lib.hid hp9
        have HT9 := Lib.hid (HTR.out.trans ht9 (fun b hb e => (HFR.out b e).elim id fun e => absurd hb (by have := HS8.out; omega)))
        have HF9 := Lib.hid (show ∀ b, F9 b → F b ∨ w.heap.size ≤ b from fun b e => (hf9 b e).elim (fun e => (HFR.out b e).imp id fun e => Nat.le_trans HS8.out e) fun e => .inr (Nat.le_trans (Nat.le_trans HS8.out HSZ.out) e))
        refine nR (.int .i64 e9) (gx_assign rfl rfl) ?_;simp only [zz]
        go_wp2_with fail
        go_ret
        exact .inr (.inr ⟨HSN.out, HON.out, i, d, x, 3, sr, dr, e9, s9, F9, rfl, HD.out, HX.out, yj, HFMS.out, by rw [← HS.out]; exact HL9.out, (laid_e HL9.out).trans ⟨fun h => ⟨rfl, h⟩, fun h => h.2⟩, rfl, HP9.out.mono (by omega), HT9.out, HF9.out⟩)
end Go.Proofs.YtelipeoilcepbaaDoor
