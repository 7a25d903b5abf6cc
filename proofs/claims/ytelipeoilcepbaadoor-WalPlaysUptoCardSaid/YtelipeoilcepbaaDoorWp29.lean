/-
  Texts in one file: WmM WmN WmI. Conditions: the tables and the errors read as the program's text lays them.
-/
import Derived.Test.YtelipeoilcepbaaDoorWp0
import Derived.Test.YtelipeoilcepbaaDoorWp24
import Derived.Test.YtelipeoilcepbaaDoorWp28
import Derived.Test.YtelipeoilcepbaaDoorWp27
namespace Go.Proofs.YtelipeoilcepbaaDoor
open Go.RowKit
open Wl (B8)
set_option linter.unusedVariables false
set_option linter.unusedSimpArgs false
set_option maxRecDepth 20000
theorem gx_build3i {P : Program} {a : Act} {o : Oper} {t : TypeId} {x y z : Operand} {u v q r : Value} {W : World} {i j k : Nat} (ho : o.op = .build t #[(i, x), (j, y), (k, z)]) (hx : a.eval x = u) (hy : a.eval y = v) (hz : a.eval z = q) (h : (Instr.build t #[(i, u), (j, v), (k, q)]).run P W = .ok r W) : (execOp a.eval o).run P W = .ok (.value r) W := by
  unfold execOp
  simp [ho, hx, hy, hz, h]
theorem build_wal (p i q g f S : Nat) (A : Option Addr) (n c : Nat) (W : World) : (Instr.build 64 #[(0, .agg (dskV p i)), (1, .agg (hdA q g f true)), (3, .slice A n c)]).run Tryd.prog W = .ok (.agg (walC p i (WalV.mk q g f [] (List.replicate S 0) 0 0) (.slice none 0 0) (.slice A n c))) W := by kernel_rfl
theorem box_wal (p i : Nat) (v : WalV) (vP vH : Value) (w : World) : (Instr.box 64 (.agg (walC p i v vP vH))).run Tryd.prog w = .ok (.pointer (some ⟨w.heap.size, 0, none⟩)) (w.alloc (.cells (walC p i v vP vH) 64)) := by
  simp [Instr.box, newVar, newRow, Result.andThen, Value.cells]
theorem Nw.f_lt {D : Wl.Disk} {x : Nwx} (h : Nw D 2 x) : x.f < 4294967296 := by
  obtain ⟨b0, b1, h0, h1, rfl⟩ := h.two
  have e0 := (Wl.stamp_lt D 0).2.1
  have e1 := (Wl.stamp_lt D 1).2.1
  unfold nwStep
  split <;> split <;> first | exact e1 | exact e0 | exact (by decide : (0 : Nat) < 4294967296)
theorem rep_getD (S sg : Nat) : (List.replicate S (0 : Nat)).getD sg 0 = 0 := by
  rw [List.getD_eq_getElem?_getD, List.getElem?_replicate]
  split <;> rfl
theorem rep_flat : ∀ S : Nat, (List.replicate S (0 : Nat)).map nv = (List.replicate S (Value.int .i64 0).cells.toList).flatten
  | 0 => rfl
  | S + 1 => by
    rw [List.replicate_succ, List.replicate_succ, List.map_cons, List.flatten_cons, rep_flat S]
    rfl
theorem made_row {w : World} {B : Nat} {S : Nat} (hS : S ≤ 1024) (h : Orw w B 3 1 (.slice (some ⟨B, 0, none⟩) S S) (List.replicate S (Value.int .i64 0).cells.toList)) : Row1 w (.slice (some ⟨B, 0, none⟩) S S) (List.replicate S 0) := by
  have h2 := h.2
  rw [List.length_replicate] at h2
  refine own_row1 (B := B) ?_ (by rw [List.length_replicate]; omega)
  rw [List.length_replicate, rep_flat]
  exact h2
def OpenP (w : World) (F : Nat → Prop) (p : Nat) (dev : Int) (s : AP) (K : Nat) (gs : List Wl.Gp) (r : Ending) (w' : World) : Prop :=
  (segsP s dev = 0 ∧ r = .returned (.tuple #[.pointer none, .int .i64 1]) ∧ Turn nowhere w w') ∨
  (segsP s dev ≠ 0 ∧ s.on = false ∧ r = .returned (.tuple #[.pointer none, .int .i64 2]) ∧ Turn nowhere w w') ∨
  (segsP s dev ≠ 0 ∧ s.on = true ∧ ∃ (i : Nat) (d : AD) (x : Nwx), dev = (i : Int) ∧ s.ds[i]? = some d ∧ Nw (dkD d) 2 x ∧
    ((x.wh = false ∧ r = .returned (.tuple #[.pointer none, .int .i64 4]) ∧ Turn nowhere w w') ∨
     (x.wh = true ∧ ∃ (e : Int) (s' : AP) (F' : Nat → Prop), WLaid (Wl.lay (dkD d) (1 - x.q) 1 (Wl.hst Crc.sumN (x.g + 1) x.f) Wl.z40) i d s e s' ∧ PlantAt w' p F' s' (K + 2) ∧ Turn F w w' ∧ (∀ b, F' b → F b ∨ w.heap.size ≤ b) ∧
       ((e = 0 ∧ ∃ (X : Nat) (vP vH : Value), r = .returned (.tuple #[.pointer (some ⟨X, 0, none⟩), .int .i64 0]) ∧ WalB w' X p i (((WalV.mk x.q x.g x.f [] (List.replicate (segsP s dev) 0) 0 0).adds gs).turn x.f) vP vH ∧ ∀ b, WalG X vP vH b → w.heap.size ≤ b ∧ ¬ F' b) ∨
        (e = 2 ∧ r = .returned (.tuple #[.pointer none, .int .i64 2]))))))
set_option maxRecDepth 20000 in
set_option maxHeartbeats 4000000 in
theorem Open_walk {w : World} {p : Nat} {F : Nat → Prop} {s : AP} {K : Nat} (h : PlantAt w p F s K) (htab : Tab w) (dev : Int) (hTF : ¬ F 0) (hK : K + 2 < 1099511627775) {gs : List Wl.Gp}
    (hgood : ∀ (i : Nat) (d : AD) (x : Nwx), dev = (i : Int) → s.ds[i]? = some d → segsP s dev ≠ 0 → Nw (dkD d) 2 x → x.wh = true → ∃ L, Wl.Good Crc.sumN (dkD d) (segsP s dev) x.f L gs) :
    Calls Tryd.prog 15 #[.pointer (some ⟨p, 0, none⟩), .int .i64 dev] w fun r w' => OpenP w F p dev s K gs r w' := by
  have HPL := Lib.hid h
  have HTAB := Lib.hid htab
  have HGOOD := Lib.hid hgood
  have HPL9 := Lib.hid (fun b (hb : F b) => h.lt hb)
  clear h htab hgood
  go_enter Tryd.func15, Tryd.ntmps15
  go_upto_region 0 with fail
  refine wp_region_lit ?_
  refine nR (.pointer none) (gx_assign rfl rfl) ?_;simp only [zz];refine nR (.int .i64 0) (gx_assign rfl rfl) ?_;simp only [zz]
  go_upto_region 1 with fail
  refine wp_region_lit ?_
  refine nR (.pointer (some ⟨p, 0, none⟩)) (exec_move rfl rfl) ?_;simp only [zz];refine nR (.int .i64 dev) (exec_move rfl rfl) ?_;simp only [zz];refine nR (.agg (dskV p dev)) (gx_build2 rfl rfl rfl (build_dsk _ _ _)) ?_;simp only [zz];refine wpList_run (v := .pointer (some ⟨w.heap.size, 0, none⟩)) (w' := w.alloc (.cells #[.pointer none, .int .i64 0] 60)) (wanted_none rfl) (gx_alloc rfl (zero_dsk _)) ?_;simp only [zz]
  have hb_ := Blk.new w 60 #[.pointer none, .int .i64 0]
  have ht_ := (Turn.refl nowhere w).alloc (.cells #[.pointer none, .int .i64 0] 60)
  obtain ⟨k, hg_⟩ : ∃ g, g = w.heap.size := ⟨_, rfl⟩
  rw [← hg_] at hb_ ⊢
  have HLk := Lib.hid (show w.heap.size ≤ k from by omega)
  clear hg_
  generalize w.alloc (.cells #[.pointer none, .int .i64 0] 60) = w1 at *
  have HBk := Lib.hid hb_
  have HT1 := Lib.hid ht_
  clear hb_ ht_
  refine wpList_store_row (wanted_none rfl) 60 (.tmp 6) (.tmp 15) rfl (dskV p dev) HBk.out rfl rfl (rfl) (by rw [size_dsk] <;> rfl) (dskV_one _ _) ?_
  intro w2 hb_ ht_
  have HBk2 := Lib.hid hb_
  have HT2 := Lib.hid ht_
  clear hb_ ht_
  simp only [zz]
  have HT2w := Lib.hid (HT1.out.trans HT2.out fun b hb e => by have := HLk.out; have e : b = k := e; omega)
  clear HT1 HT2 HBk
  go_upto_region 2 with fail
  refine wp_region_lit ?_
  refine nR (.agg (dskV p dev)) (gx_loads rfl rfl (blk_range HBk2.out) Tryd.underlying60 rfl (by rw [size_dsk]; rfl)) ?_;simp only [zz]
  refine wpList_op rfl fun K9 HK9 => ?_
  go_wp2_with fail
  refine (segments_walk (HPL.out.turn HT2w.out fun _ _ e => e) dev).mono ?_
  rintro e w3 ⟨rfl, ht⟩
  refine HK9.out _ _ ?_
  clear HK9
  try simp only [zz]
  have HT3 := Lib.hid (HT2w.out.trans ht fun _ _ e => e)
  have HBk3 := Lib.hid (HBk2.out.turn ht fun e => e)
  clear ht HT2w HBk2
  obtain ⟨S, hS⟩ : ∃ S, S = segsP s dev := ⟨_, rfl⟩
  rw [← hS]
  have HS := Lib.hid hS
  clear hS
  refine nR (.int .i64 (S : Int)) (gx_assign rfl rfl) ?_;simp only [zz]
  by_cases hS0 : S = 0
  · go_upto_region 3 with fail
    refine wp_region_lit ?_
    refine nR (.int .i64 (S : Int)) (exec_move rfl rfl) ?_;simp only [zz];refine nR (.bool true) (ix_eql rfl rfl rfl (decide_eq_true (by omega))) ?_;simp only [zz]
    go_upto_region 4 with fail
    refine wp_region_lit ?_
    refine nR (.pointer none) (gx_assign rfl rfl) ?_;simp only [zz];refine nR (.int .i64 1) (gx_assign rfl rfl) ?_;simp only [zz]
    go_wp2_with fail
    go_ret2
    exact .inl ⟨HS.out ▸ hS0, rfl, HT3.out⟩
  · go_upto_region 3 with fail
    refine wp_region_lit ?_
    refine nR (.int .i64 (S : Int)) (exec_move rfl rfl) ?_;simp only [zz];refine nR (.bool false) (ix_eql rfl rfl rfl (decide_eq_false (by omega))) ?_;simp only [zz]
    have hSn : segsP s dev ≠ 0 := by rw [← HS.out]; exact hS0
    have HSN := Lib.hid hSn
    obtain ⟨i, d, hdev, hd⟩ := segs_in hSn
    subst hdev
    have HD := Lib.hid hd
    have hrm := segs_room hd hSn
    rw [← HS.out] at hrm
    have hdn := HPL.out.dn hd
    have yS : 4 ≤ S ∧ 2 + 64 * S ≤ 65536 := by omega
    have HRM := Lib.hid hrm.1
    have y2 : 2 ≤ d.n := by omega
    clear hd hrm hdn hSn
    go_upto_region 5 with fail
    refine wp_region_lit ?_
    refine nR (.agg (dskV p i)) (gx_loads rfl rfl (blk_range HBk3.out) Tryd.underlying60 rfl (by rw [size_dsk]; rfl)) ?_;simp only [zz]
    refine wpList_op (wanted_none rfl) fun K9 HK9 => ?_
    go_wp2_with fail
    refine (newestHeader_walk (HPL.out.turn HT3.out fun _ _ e => e) (tab_still HTAB.out HT3.out) i d HD.out y2).mono ?_
    rintro e w4 ⟨ht, hcase⟩
    have HT4 := Lib.hid (HT3.out.trans ht fun _ _ e => e)
    have HBk4 := Lib.hid (HBk3.out.turn ht fun e => e)
    clear ht HT3 HBk3
    rcases hcase with ⟨hoff, rfl⟩ | ⟨hon, x, hx, rfl⟩
    · refine HK9.out _ _ ?_
      clear HK9
      try simp only [zz]
      refine nR (.tuple #[.agg (hdA 0 0 0 false), .int .i64 2]) (exec_move rfl rfl) ?_;simp only [zz];refine nR (.agg (hdA 0 0 0 false)) (ix_extract rfl rfl rfl) ?_;simp only [zz];refine nR (.int .i64 2) (ix_extract rfl rfl rfl) ?_;simp only [zz];refine wpList_run (v := .pointer (some ⟨w4.heap.size, 0, none⟩)) (w' := w4.alloc (.cells (hdA 0 0 0 false) 62)) (wanted_none rfl) (gx_alloc rfl (zero_hdr _)) ?_;simp only [zz]
      have hb_ := Blk.new w4 62 (hdA 0 0 0 false)
      have ht_ := (Turn.refl nowhere w4).alloc (.cells (hdA 0 0 0 false) 62)
      obtain ⟨m, hg_⟩ : ∃ g, g = w4.heap.size := ⟨_, rfl⟩
      rw [← hg_] at hb_ ⊢
      have HLm := Lib.hid (show w4.heap.size ≤ m from by omega)
      clear hg_
      generalize w4.alloc (.cells (hdA 0 0 0 false) 62) = w5 at *
      have HBm := Lib.hid hb_
      have HT5 := Lib.hid ht_
      clear hb_ ht_
      refine wpList_store_row (wanted_none rfl) 62 (.tmp 8) (.tmp 23) rfl (hdA 0 0 0 false) HBm.out rfl rfl (rfl) (by rw [size_hdr] <;> rfl) (hdA_one _ _ _ _) ?_
      intro w6 hb_ ht_
      have HBm6 := Lib.hid hb_
      have HT6 := Lib.hid ht_
      clear hb_ ht_
      simp only [zz]
      have HT46 := Lib.hid (HT5.out.trans HT6.out fun b hb e => by have := HLm.out; have e : b = m := e; omega)
      have HT6w := Lib.hid (HT4.out.trans HT46.out fun _ _ e => e)
      have HBk6 := Lib.hid (HBk4.out.turn HT46.out fun e => e)
      clear HT5 HT6 HT46 HT4 HBk4 HBm
      refine nR (.int .i64 2) (gx_assign rfl rfl) ?_;simp only [zz]
      go_upto_region 6 with fail
      refine wp_region_lit ?_
      refine nR (.int .i64 2) (exec_move rfl rfl) ?_;simp only [zz];refine nR (.bool true) (ix_neq rfl rfl rfl (by decide)) ?_;simp only [zz]
      go_upto_region 7 with fail
      refine wp_region_lit ?_
      refine nR (.int .i64 2) (exec_move rfl rfl) ?_;simp only [zz];refine nR (.pointer none) (gx_assign rfl rfl) ?_;simp only [zz];refine nR (.int .i64 2) (gx_assign rfl rfl) ?_;simp only [zz]
      go_wp2_with fail
      go_ret2
      exact .inr (.inl ⟨HSN.out, hoff, rfl, HT6w.out⟩)
    · have HX := Lib.hid hx
      have HON := Lib.hid hon
      have yq : x.q ≤ 1 := hx.q_lt
      have yf : x.f < 4294967296 := hx.f_lt
      have yg : x.g < 4294967296 := hx.g_lt
      clear hx hon
      refine HK9.out _ _ ?_
      clear HK9
      try simp only [zz]
      refine nR (.tuple #[.agg (hdA x.q x.g x.f x.wh), .int .i64 0]) (exec_move rfl rfl) ?_;simp only [zz];refine nR (.agg (hdA x.q x.g x.f x.wh)) (ix_extract rfl rfl rfl) ?_;simp only [zz];refine nR (.int .i64 0) (ix_extract rfl rfl rfl) ?_;simp only [zz];refine wpList_run (v := .pointer (some ⟨w4.heap.size, 0, none⟩)) (w' := w4.alloc (.cells (hdA 0 0 0 false) 62)) (wanted_none rfl) (gx_alloc rfl (zero_hdr _)) ?_;simp only [zz]
      have hb_ := Blk.new w4 62 (hdA 0 0 0 false)
      have ht_ := (Turn.refl nowhere w4).alloc (.cells (hdA 0 0 0 false) 62)
      obtain ⟨m, hg_⟩ : ∃ g, g = w4.heap.size := ⟨_, rfl⟩
      rw [← hg_] at hb_ ⊢
      have HLm := Lib.hid (show w4.heap.size ≤ m from by omega)
      clear hg_
      generalize w4.alloc (.cells (hdA 0 0 0 false) 62) = w5 at *
      have HBm := Lib.hid hb_
      have HT5 := Lib.hid ht_
      clear hb_ ht_
      refine wpList_store_row (wanted_none rfl) 62 (.tmp 8) (.tmp 23) rfl (hdA x.q x.g x.f x.wh) HBm.out rfl rfl (rfl) (by rw [size_hdr] <;> rfl) (hdA_one _ _ _ _) ?_
      intro w6 hb_ ht_
      have HBm6 := Lib.hid hb_
      have HT6 := Lib.hid ht_
      clear hb_ ht_
      simp only [zz]
      have HT46 := Lib.hid (HT5.out.trans HT6.out fun b hb e => by have := HLm.out; have e : b = m := e; omega)
      have HT6w := Lib.hid (HT4.out.trans HT46.out fun _ _ e => e)
      have HBk6 := Lib.hid (HBk4.out.turn HT46.out fun e => e)
      clear HT5 HT6 HT46 HT4 HBk4 HBm
      refine nR (.int .i64 0) (gx_assign rfl rfl) ?_;simp only [zz]
      go_upto_region 6 with fail
      refine wp_region_lit ?_
      refine nR (.int .i64 0) (exec_move rfl rfl) ?_;simp only [zz];refine nR (.bool false) (ix_neq rfl rfl rfl (by decide)) ?_;simp only [zz]
      go_upto_region 8 with fail
      refine wp_region_lit ?_
      refine nR (.pointer (some ⟨m, 3, none⟩)) (exec_field (off := 0) (d := 3) rfl rfl (by kernel_rfl)) ?_;simp only [zz];refine nR (.bool x.wh) (exec_load1 rfl rfl (by kernel_rfl) (HBm6.out.cell 3)) ?_;simp only [zz];refine nR (.bool (!x.wh)) (ix_not rfl rfl) ?_;simp only [zz]
      rcases hwh : x.wh with _ | _
      · have HWH := Lib.hid hwh
        clear hwh
        go_upto_region 9 with fail
        refine wp_region_lit ?_
        refine nR (.pointer none) (gx_assign rfl rfl) ?_;simp only [zz];refine nR (.int .i64 4) (gx_assign rfl rfl) ?_;simp only [zz]
        go_wp2_with fail
        go_ret2
        exact .inr (.inr ⟨HSN.out, HON.out, i, d, x, rfl, HD.out, HX.out, .inl ⟨HWH.out, rfl, HT6w.out⟩⟩)
      · have HWH := Lib.hid hwh
        obtain ⟨L, hL⟩ := HGOOD.out i d x rfl HD.out HSN.out HX.out hwh
        have HGD := Lib.hid hL
        rw [hwh] at HBm6
        clear hwh hL
        have HBk7 := Lib.hid HBk6.out.drew
        have HBm7 := Lib.hid HBm6.out.drew
        have HT7 := Lib.hid (HT6w.out.trans (Turn.refl nowhere w6).drew fun _ _ e => e)
        go_upto_region 10 with fail
        refine wp_region_alw (fun W => Blk W k 60 (dskV p i) ∧ Blk W m 62 (hdA x.q x.g x.f true)) (by kernel_rfl) ?_
        have hS0 := And.intro HBk7.out HBm7.out
        clear HT6w HBk6 HBm6
        generalize w6.drew = w7 at *
        refine alw_take (i := 0) (v := .agg (dskV p i)) rfl (by kernel_rfl) (by kernel_rfl) (fun _ _ _ h => h) (.inl ⟨by rfl, fun W hW => gx_loads rfl rfl (blk_range hW.1) Tryd.underlying60 rfl (by rw [size_dsk]; rfl)⟩) hS0 ?_
        simp only [zz]
        refine alw_take (i := 1) (v := .agg (hdA x.q x.g x.f true)) rfl (by kernel_rfl) (by kernel_rfl) (fun _ _ _ h => h) (.inl ⟨by rfl, fun W hW => gx_loads rfl rfl (blk_range hW.2) Tryd.underlying62 rfl (by rw [size_hdr]; rfl)⟩) hS0 ?_
        simp only [zz]
        refine alw_take (i := 2) (v := .int .i64 (S : Int)) rfl (by kernel_rfl) (by kernel_rfl) (fun _ _ _ h => h) (.inl ⟨by rfl, fun W hW => exec_move rfl rfl⟩) hS0 ?_
        simp only [zz]
        obtain ⟨w8, hrun, ho8, ht8⟩ := orw_make elmN (fun u hu => by simp [Value.cells] at hu; subst hu; rfl) S (by omega) w7
        obtain ⟨B, hB⟩ : ∃ B, B = w7.heap.size := ⟨_, rfl⟩
        have HBB := Lib.hid hB
        rw [← hB] at hrun ho8
        clear hB
        have HRUN := Lib.hid hrun
        have HR8 := Lib.hid (made_row (by omega) ho8)
        have HT78 := Lib.hid ht8
        have HB8 := Lib.hid (And.intro (HBk7.out.turn ht8 fun e => e) (HBm7.out.turn ht8 fun e => e))
        clear hrun ho8 ht8
        refine alw_step (i := 3) (by kernel_rfl) rfl rfl ?_
        intro K1 HK1
        refine wp_run (v := .slice (some ⟨B, 0, none⟩) S S) (w' := w8) (gx_make rfl rfl rfl HRUN.out) ?_
        refine HK1.out _ _ ⟨HB8.out, ?_⟩
        clear HK1 hS0
        try simp only [zz]
        refine alw_take (i := 4) (v := .agg (walC p i (WalV.mk x.q x.g x.f [] (List.replicate S 0) 0 0) (.slice none 0 0) (.slice (some ⟨B, 0, none⟩) S S))) rfl (by kernel_rfl) (by kernel_rfl) (fun _ _ _ h => h) (.inl ⟨by rfl, fun W hW => gx_build3i rfl rfl rfl rfl (build_wal p i x.q x.g x.f S _ _ _ W)⟩) HB8.out ?_
        simp only [zz]
        have hb9 := Blk.new w8 64 (walC p i (WalV.mk x.q x.g x.f [] (List.replicate S 0) 0 0) (.slice none 0 0) (.slice (some ⟨B, 0, none⟩) S S))
        have ht9 := (Turn.refl nowhere w8).alloc (.cells (walC p i (WalV.mk x.q x.g x.f [] (List.replicate S 0) 0 0) (.slice none 0 0) (.slice (some ⟨B, 0, none⟩) S S)) 64)
        have HB9 := Lib.hid (And.intro (HB8.out.1.turn ht9 fun e => e) (HB8.out.2.turn ht9 fun e => e))
        refine alw_step (i := 5) (by kernel_rfl) rfl rfl ?_
        intro K1 HK1
        refine wp_run (v := .pointer (some ⟨w8.heap.size, 0, none⟩)) (w' := w8.alloc (.cells (walC p i (WalV.mk x.q x.g x.f [] (List.replicate S 0) 0 0) (.slice none 0 0) (.slice (some ⟨B, 0, none⟩) S S)) 64)) (gx_box rfl rfl (box_wal _ _ _ _ _ _)) ?_
        refine HK1.out _ _ ⟨HB9.out, ?_⟩
        clear HK1
        try simp only [zz]
        obtain ⟨X, hX⟩ : ∃ X, X = w8.heap.size := ⟨_, rfl⟩
        have HXX := Lib.hid hX
        have hr9 := HR8.out.turn ht9 (fun b e e2 => e2)
        have HT79 := Lib.hid (HT78.out.trans ht9 fun _ _ e => e)
        rw [← hX] at hb9 ⊢
        clear hX
        generalize w8.alloc (.cells (walC p i (WalV.mk x.q x.g x.f [] (List.replicate S 0) 0 0) (.slice none 0 0) (.slice (some ⟨B, 0, none⟩) S S)) 64) = w9 at *
        have hlt8 : B < w8.heap.size := (HR8.out.lt (b := B) rfl).1
        have HW9 := Lib.hid (show WalB w9 X p i (WalV.mk x.q x.g x.f [] (List.replicate S 0) 0 0) (.slice none 0 0) (.slice (some ⟨B, 0, none⟩) S S) from ⟨hb9, ⟨none, 0, rfl, Nat.le_refl _, ⟨by unfold maxLen; omega, Nat.zero_le _⟩, .inl ⟨rfl, rfl⟩⟩, hr9, fun b e => by cases e⟩)
        have HT9 := Lib.hid (HT7.out.trans HT79.out fun _ _ e => e)
        have HNEW := Lib.hid (show w.heap.size ≤ B ∧ w.heap.size ≤ X ∧ B < w9.heap.size from ⟨by rw [HBB.out]; exact HT7.out.size, by rw [HXX.out]; exact Nat.le_trans HT7.out.size HT78.out.size, by have := HT79.out.size; have := ht9.size; omega⟩)
        clear hb9 ht9 hr9
        refine alw_take (i := 6) (v := .pointer (some ⟨X, 0, none⟩)) rfl (by kernel_rfl) (by kernel_rfl) (fun _ _ _ h => h) (.inl ⟨by rfl, fun W hW => gx_assign rfl rfl⟩) HB9.out ?_
        simp only [zz]
        refine alw_done rfl ?_
        refine NoPanic.normal ?_
        try simp only [zz]
        go_upto_region 11 with fail
        refine wp_region_lit ?_
        refine nR (.pointer (some ⟨X, 0, none⟩)) (exec_move rfl rfl) ?_;simp only [zz]
        have HG9 := Lib.hid (show ∀ b, WalG X (.slice none 0 0) (.slice (some ⟨B, 0, none⟩) S S) b → w.heap.size ≤ b from fun b hb => by
          rcases hb with h1 | h1 | h1
          · rw [h1]; exact HNEW.out.2.1
          · cases h1
          · obtain rfl : B = b := Option.some.inj h1
            exact HNEW.out.1)
        have hfind := find_walk HW9.out (HPL.out.turn HT9.out fun _ _ e => e) (tab_still HTAB.out HT9.out) d HD.out (L := L) (gs := gs) (by rw [show (WalV.mk x.q x.g x.f [] (List.replicate S 0) 0 0).held.length = segsP s (i : Int) from by rw [← HS.out]; exact List.length_replicate]; exact HGD.out) (by rw [show (WalV.mk x.q x.g x.f [] (List.replicate S 0) 0 0).held.length = S from List.length_replicate]; exact HRM.out) rfl (rep_getD S) (by show x.f ≤ _; omega) (by rw [show (WalV.mk x.q x.g x.f [] (List.replicate S 0) 0 0).held.length = S from List.length_replicate]; omega)
        refine wpList_op (wanted_none rfl) fun K9 HK9 => ?_
        go_wp2_with fail
        refine hfind.mono ?_
        clear hfind
        rintro e w10 (⟨hoff, _⟩ | ⟨_, rfl, vP, hw, ht, hvp⟩)
        · exact absurd HON.out (by rw [hoff]; decide)
        refine HK9.out _ _ ?_
        clear HK9
        try simp only [zz]
        have HW10 := Lib.hid hw
        have HVP := Lib.hid hvp
        have HT10 := Lib.hid (HT9.out.trans ht fun b hb e => by
          have := HG9.out b e
          omega)
        have HPL10 := Lib.hid ((HPL.out.turn HT9.out fun _ _ e => e).turn ht fun b hb e => by
          have h1 := HG9.out b e
          have h2 := HPL.out.lt hb
          omega)
        have HG10 := Lib.hid (show ∀ b, WalG X vP (.slice (some ⟨B, 0, none⟩) S S) b → w.heap.size ≤ b ∧ b < w10.heap.size from fun b hb => by
          rcases hb with h1 | h1 | h1
          · exact ⟨by rw [h1]; exact HNEW.out.2.1, by rw [h1]; exact hw.blk.lt⟩
          · refine ⟨?_, (hw.pl.lt h1).1⟩
            rcases hvp b h1 with h2 | h2
            · cases h2
            · exact Nat.le_trans HT9.out.size h2
          · refine ⟨?_, (hw.he.lt h1).1⟩
            obtain rfl : B = b := Option.some.inj h1
            exact HNEW.out.1)
        have HTB10 := Lib.hid (tab_still HTAB.out HT10.out)
        have HAF := Lib.hid (adds_facts gs (WalV.mk x.q x.g x.f [] (List.replicate S 0) 0 0))
        clear hw hvp ht HW9 HPL HT9 HG9
        refine nR (.int .i64 0) (gx_assign rfl rfl) ?_;simp only [zz]
        go_upto_region 12 with fail
        refine wp_region_lit ?_
        refine nR (.int .i64 0) (exec_move rfl rfl) ?_;simp only [zz];refine nR (.bool false) (ix_neq rfl rfl rfl (by decide)) ?_;simp only [zz]
        obtain ⟨v1, hv1⟩ : ∃ v1, v1 = (WalV.mk x.q x.g x.f [] (List.replicate S 0) 0 0).adds gs := ⟨_, rfl⟩
        rw [← hv1] at HW10 HAF
        have HV1 := Lib.hid hv1
        have HV2 := Lib.hid (show v1.first = x.f ∧ v1.slot = x.q ∧ v1.age = x.g from ⟨HAF.out.2.2.1, HAF.out.2.2.2.1, HAF.out.2.2.2.2.1⟩)
        clear hv1 HAF
        go_upto_region 14 with fail
        refine wp_region_lit ?_
        refine nR (.pointer (some ⟨X, 0, none⟩)) (exec_move rfl rfl) ?_;simp only [zz];refine nR (.pointer (some ⟨X, 0, none⟩)) (exec_move rfl rfl) ?_;simp only [zz];refine nR (.pointer (some ⟨X, 0, none⟩)) (exec_nil rfl rfl) ?_;simp only [zz];refine nR (.pointer (some ⟨X, 2, none⟩)) (exec_field (off := 0) (d := 2) rfl rfl (by kernel_rfl)) ?_;simp only [zz];refine nR (.pointer (some ⟨X, 4, none⟩)) (exec_field (off := 2) (d := 2) rfl rfl (by kernel_rfl)) ?_;simp only [zz];refine nR (.int .i64 (v1.first : Int)) (exec_load1 rfl rfl (by kernel_rfl) (HW10.out.blk.cell 4)) ?_;simp only [zz]
        have hren := renew_walk HW10.out HPL10.out HTB10.out d HD.out (fun b hb e => by have h1 := (HG10.out b hb).1; have h2 := HPL9.out b e; omega) (by rw [HV2.out.2.1]; exact yq) (by rw [HV2.out.2.2]; omega) v1.first (by rw [HV2.out.1]; omega) y2 hK
        refine wpList_op (wanted_none rfl) fun K9 HK9 => ?_
        go_wp2_with fail
        refine hren.mono ?_
        clear hren
        rintro r w11 ⟨e, s', F', rfl, hl, hpl, ht, hF, hw⟩
        refine HK9.out _ _ ?_
        clear HK9
        try simp only [zz]
        have HT11 := Lib.hid (show Turn F w w11 from (HT10.out.mono fun _ _ e => False.elim e).trans ht fun b hb e => by
          rcases e with h1 | h1
          · exact h1
          · have := HNEW.out.2.1
            have h1 : b = X := h1
            omega)
        have HFF := Lib.hid (show ∀ b, F' b → F b ∨ w.heap.size ≤ b from fun b hb => (hF b hb).imp id fun h => Nat.le_trans HT10.out.size h)
        have HGF := Lib.hid (show ∀ b, WalG X vP (.slice (some ⟨B, 0, none⟩) S S) b → w.heap.size ≤ b ∧ ¬ F' b from fun b hb => ⟨(HG10.out b hb).1, fun e => by
          rcases hF b e with h1 | h1
          · have h2 := HPL9.out b h1
            have h3 := (HG10.out b hb).1
            omega
          · have h3 := (HG10.out b hb).2
            omega⟩)
        rw [HV2.out.1, HV2.out.2.1, HV2.out.2.2] at hl
        rw [HV2.out.1, HV1.out] at hw
        have HL := Lib.hid hl
        have HPL11 := Lib.hid hpl
        clear ht hF hpl HG10 HT10
        have he2 : e = 0 ∨ e = 2 := by
          rcases hl with ⟨h1, _⟩ | ⟨h1, _⟩
          · exact .inl h1
          · exact .inr h1
        clear hl
        rcases he2 with rfl | rfl
        · rw [if_pos rfl] at hw
          have HW11 := Lib.hid hw
          clear hw
          refine nR (.int .i64 0) (gx_assign rfl rfl) ?_;simp only [zz]
          go_upto_region 15 with fail
          refine wp_region_lit ?_
          refine nR (.int .i64 0) (exec_move rfl rfl) ?_;simp only [zz];refine nR (.bool false) (ix_neq rfl rfl rfl (by decide)) ?_;simp only [zz]
          go_upto_region 17 with fail
          refine wp_region_lit ?_
          refine nR (.pointer (some ⟨X, 0, none⟩)) (exec_move rfl rfl) ?_;simp only [zz];refine nR (.pointer (some ⟨X, 0, none⟩)) (gx_assign rfl rfl) ?_;simp only [zz];refine nR (.int .i64 0) (gx_assign rfl rfl) ?_;simp only [zz]
          go_wp2_with fail
          go_ret2
          exact .inr (.inr ⟨HSN.out, HON.out, i, d, x, rfl, HD.out, HX.out, .inr ⟨HWH.out, 0, s', F', HL.out, HPL11.out, HT11.out, HFF.out, .inl ⟨rfl, X, vP, _, rfl, by rw [← HS.out]; exact HW11.out, HGF.out⟩⟩⟩)
        · clear hw
          refine nR (.int .i64 2) (gx_assign rfl rfl) ?_;simp only [zz]
          go_upto_region 15 with fail
          refine wp_region_lit ?_
          refine nR (.int .i64 2) (exec_move rfl rfl) ?_;simp only [zz];refine nR (.bool true) (ix_neq rfl rfl rfl (by decide)) ?_;simp only [zz]
          go_upto_region 16 with fail
          refine wp_region_lit ?_
          refine nR (.int .i64 2) (exec_move rfl rfl) ?_;simp only [zz];refine nR (.pointer none) (gx_assign rfl rfl) ?_;simp only [zz];refine nR (.int .i64 2) (gx_assign rfl rfl) ?_;simp only [zz]
          go_wp2_with fail
          go_ret2
          exact .inr (.inr ⟨HSN.out, HON.out, i, d, x, rfl, HD.out, HX.out, .inr ⟨HWH.out, 2, s', F', HL.out, HPL11.out, HT11.out, HFF.out, .inr ⟨rfl, rfl⟩⟩⟩)
end Go.Proofs.YtelipeoilcepbaaDoor
namespace Go.Proofs.YtelipeoilcepbaaDoor
open Go.RowKit
open Wl (B8 Gp live beg lastS lastU)
set_option linter.unusedVariables false
set_option linter.unusedSimpArgs false
set_option maxRecDepth 20000
theorem heldOf_snoc {S P : Nat} (ps : List Nat) (h : (P - 2) / 64 < S) : heldOf S (ps ++ [P]) = (heldOf S ps).set ((P - 2) / 64) ((heldOf S ps).getD ((P - 2) / 64) 0 + 1) := by
  refine List.ext_getElem? fun j => ?_
  rw [List.getElem?_set, List.getD_eq_getElem?_getD, heldOf_at _ h, heldOf_len]
  by_cases hj : (P - 2) / 64 = j
  · subst hj
    rw [if_pos rfl, if_pos h, heldOf_at _ h, List.countP_append]
    simp
  · rw [if_neg hj]
    by_cases hS : j < S
    · rw [heldOf_at _ hS, heldOf_at _ hS, List.countP_append]
      simp [hj]
    · rw [List.getElem?_eq_none (by rw [heldOf_len]; omega), List.getElem?_eq_none (by rw [heldOf_len]; omega)]
theorem add_held {S P c : Nat} {v : WalV} (h : v.held = heldOf S v.places) (hP : (P - 2) / 64 < S) : (v.add P c).held = heldOf S (v.add P c).places := by
  show v.held.set _ _ = heldOf S (v.places ++ [P])
  rw [heldOf_snoc _ hP, h]
theorem adds_held {S : Nat} : ∀ (gs : List Gp) (v : WalV), v.held = heldOf S v.places → (∀ g ∈ gs, (g.P - 2) / 64 < S) → (v.adds gs).held = heldOf S (v.adds gs).places
  | [], v, h, _ => h
  | g :: gs, v, h, hg => adds_held gs (v.add g.P g.s.cost) (add_held h (hg g (List.mem_cons_self ..))) fun x hx => hg x (List.mem_cons_of_mem _ hx)
theorem adds_last {v : WalV} (h1 : v.seg = 0) (h2 : v.used = 0) (gs : List Gp) : (v.adds gs).seg = lastS gs ∧ (v.adds gs).used = lastU gs := by
  rcases List.eq_nil_or_concat gs with rfl | ⟨l, g, rfl⟩
  · exact ⟨h1, h2⟩
  · rw [List.concat_eq_append, adds_snoc]
    unfold lastS lastU
    rw [List.getLast?_append]
    exact ⟨rfl, rfl⟩
structure Lgv (D : Wl.Disk) (S : Nat) (v : WalV) (L : List Wl.Rec) (gs : List Gp) : Prop where
  on : Wl.On Crc.sumN D S v.first L gs v.slot v.age v.seg v.used
  pl : v.places = gs.map (·.P)
  he : v.held = heldOf S v.places
section
variable {D D' : Wl.Disk} {S : Nat} {v : WalV} {L : List Wl.Rec} {gs : List Gp}
theorem Lgv.hl (h : Lgv D S v L gs) : v.held.length = S := by rw [h.he, heldOf_len]
theorem Lgv.pn (h : Lgv D S v L gs) : v.places.length = L.length := by rw [h.pl, List.length_map, h.on.good.len]
theorem seg_of {S : Nat} {f : Nat} (h : Wl.Good Crc.sumN D S f L gs) : ∀ g ∈ gs, (g.P - 2) / 64 < S := fun g hg => by
  obtain ⟨sg, h1, h2, h3, h4⟩ := h.seg g hg
  unfold Wl.beg at h2 h3
  omega
theorem Lgv.opened {q g f : Nat} (h : Wl.On Crc.sumN D' S f L gs (1 - q) (g + 1) (lastS gs) (lastU gs)) : Lgv D' S (((WalV.mk q g f [] (List.replicate S 0) 0 0).adds gs).turn f) L gs := by
  obtain ⟨a1, a2, a3, a4, a5, _⟩ := adds_facts gs (WalV.mk q g f [] (List.replicate S 0) 0 0)
  obtain ⟨b1, b2⟩ := adds_last (v := WalV.mk q g f [] (List.replicate S 0) 0 0) rfl rfl gs
  have a6 := adds_held gs (WalV.mk q g f [] (List.replicate S 0) 0 0) (by
    unfold heldOf
    refine List.ext_getElem? fun j => ?_
    show (List.replicate S 0)[j]? = _
    rw [List.getElem?_replicate, List.getElem?_map]
    by_cases hj : j < S
    · rw [if_pos hj, List.getElem?_range hj]
      rfl
    · rw [if_neg hj, List.getElem?_eq_none (by rw [List.length_range]; omega)]
      rfl) (seg_of h.good)
  generalize (WalV.mk q g f [] (List.replicate S 0) 0 0).adds gs = v1 at *
  have a4 : v1.slot = q := a4
  have a5 : v1.age = g := a5
  refine ⟨?_, a1, a6⟩
  show Wl.On Crc.sumN D' S f L gs (1 - v1.slot) (v1.age + 1) v1.seg v1.used
  rw [a4, a5, b1, b2]
  exact h
theorem Lgv.pick (h : Lgv D S v L gs) {l : Wl.Rec} (hl : ¬ Wl.long l) {sg us : Nat} (hp : v.pick (Wl.cost l) = some (sg, us)) : sg < S ∧ Wl.Cur D (beg sg) (beg sg + us) (v.first + L.length) v.first ∧ us + Wl.cost l ≤ 64 := by
  have hc := Wl.cost_max hl
  unfold WalV.pick at hp
  split at hp
  · rename_i hu
    injection hp with hp
    injection hp with h1 h2
    subst h1 h2
    exact ⟨h.on.sgl, h.on.cur, hu⟩
  · obtain ⟨x, hx, e⟩ := Option.map_eq_some_iff.1 hp
    injection e with h1 h2
    subst h1 h2
    have hlt := freeK_lt hx
    rw [h.hl] at hlt
    have hb : freeB v x = true := by
      have := List.find?_some hx
      simpa using this
    unfold freeB at hb
    simp only [Bool.and_eq_true, decide_eq_true_eq] at hb
    refine ⟨hlt, .inl ⟨by omega, ?_⟩, by omega⟩
    rw [h.on.good.liv x hlt, List.filter_eq_nil_iff]
    intro g hg hd
    simp only [decide_eq_true_eq] at hd
    have h0 := hb.1
    rw [h.he, heldOf_at _ hlt] at h0
    have h0 := Option.some.inj h0
    rw [List.countP_eq_zero] at h0
    have h1 := h0 g.P (by rw [h.pl]; exact List.mem_map.2 ⟨g, hg, rfl⟩)
    simp only [decide_eq_true_eq] at h1
    exact h1 (Wl.segOf_in hd.1 hd.2)
theorem Lgv.append (w : Wl.Whole D) (w' : Wl.Whole D') (h : Lgv D S v L gs) (ha4 : v.age < 4294967296) (hn4 : v.first + L.length < 4294967296) {l : Wl.Rec} (hl : ¬ Wl.long l) {sg us : Nat} (hp : v.pick (Wl.cost l) = some (sg, us))
    (hm : Wl.Mix D (Wl.lay D (2 + 64 * sg + us) (Wl.cost l) (Wl.ast Crc.sumN v.age (v.first + v.places.length) l) (Wl.pack l)) D') :
    ((¬ ∀ q, D' q = Wl.lay D (2 + 64 * sg + us) (Wl.cost l) (Wl.ast Crc.sumN v.age (v.first + v.places.length) l) (Wl.pack l) q) ∧ Wl.DiskOk Crc.sumN D' S v.first L) ∨
    ((∀ q, D' q = Wl.lay D (2 + 64 * sg + us) (Wl.cost l) (Wl.ast Crc.sumN v.age (v.first + v.places.length) l) (Wl.pack l) q) ∧ ∃ gs', Lgv D' S (v.add (2 + 64 * sg + us) (Wl.cost l)) (L ++ [l]) gs' ∧ ∃ g : Gp, gs' = gs ++ [g] ∧ g.P = 2 + 64 * sg + us ∧ g.s.cost = Wl.cost l) := by
  obtain ⟨h1, h2, h3⟩ := h.pick hl hp
  rw [h.pn] at hm ⊢
  have hcp : 0 < Wl.cost l := by unfold Wl.cost; omega
  rcases h.on.append Crc.sumN_lt w w' ha4 hn4 hl h1 h2 h3 hm with h4 | ⟨h4, h5⟩
  · exact .inl h4
  · have hs : (2 + 64 * sg + us - 2) / 64 = sg := by omega
    refine .inr ⟨h4, gs ++ [⟨Wl.ast Crc.sumN v.age (v.first + L.length) l, beg sg + us, Wl.pack l⟩], ⟨?_, ?_, add_held h.he (by rw [hs]; exact h1)⟩, _, rfl, rfl, rfl⟩
    · show Wl.On Crc.sumN D' S v.first (L ++ [l]) _ v.slot v.age ((2 + 64 * sg + us - 2) / 64) (2 + 64 * sg + us + Wl.cost l - (2 + 64 * ((2 + 64 * sg + us - 2) / 64)))
      rw [hs, show 2 + 64 * sg + us + Wl.cost l - (2 + 64 * sg) = us + Wl.cost l from by omega]
      exact h5
    · show v.places ++ [2 + 64 * sg + us] = _
      rw [h.pl, List.map_append]
      rfl
theorem Lgv.cut (w : Wl.Whole D) (w' : Wl.Whole D') (h : Lgv D S v L gs) (ha4 : v.age + 1 < 4294967296) (hn4 : v.first + L.length < 4294967296) {k : Nat} (hk : k ≤ v.places.length)
    (hm : Wl.Mix D (Wl.lay D (1 - v.slot) 1 (Wl.hst Crc.sumN (v.age + 1) (v.first + k)) Wl.z40) D') :
    ((¬ ∀ q, D' q = Wl.lay D (1 - v.slot) 1 (Wl.hst Crc.sumN (v.age + 1) (v.first + k)) Wl.z40 q) ∧ Wl.DiskOk Crc.sumN D' S v.first L) ∨
    ((∀ q, D' q = Wl.lay D (1 - v.slot) 1 (Wl.hst Crc.sumN (v.age + 1) (v.first + k)) Wl.z40 q) ∧ Lgv D' S (v.cut k) (L.drop k) (gs.drop k)) := by
  rw [h.pn] at hk
  rcases h.on.cut Crc.sumN_lt w w' ha4 hn4 hk hm with h4 | ⟨h4, h5⟩
  · exact .inl h4
  · refine .inr ⟨h4, h5, ?_, ?_⟩
    · show v.places.drop k = _
      rw [h.pl, List.map_drop]
    · show heldOf v.held.length (v.places.drop k) = _
      rw [h.hl]
      rfl
end
end Go.Proofs.YtelipeoilcepbaaDoor
namespace Go.Proofs.YtelipeoilcepbaaDoor
open Go.RowKit
open Wl (B8)
set_option linter.unusedVariables false
set_option linter.unusedSimpArgs false
set_option maxRecDepth 20000
open Wl
theorem zero_tagAt {D : Disk} {q : Nat} (h : D q = z64) {j : Nat} (hj : j < 2) : tagAt D q j = List.replicate 12 0 := by
  unfold tagAt halfAt
  rw [h]
  match j, hj with
  | 0, _ => rfl
  | 1, _ => rfl
theorem zero_stamp {D : Disk} {q : Nat} (h : D q = z64) : stampOf D q = ⟨0, 0, 0, 0⟩ := by
  unfold stampOf
  rw [zero_tagAt h (by omega), zero_tagAt h (by omega)]
  rfl
theorem zero_grp {D : Disk} {E q : Nat} (h : D q = z64) : grp D E q = none := grp_n0 (by rw [zero_stamp h])
theorem fresh_ok {D : Disk} {S : Nat} (hw : Whole D) (h1 : D 1 = z64) (hz : ∀ q, 2 ≤ q → q < beg S → D q = z64) :
    Hd Crc.sumN (lay D 0 1 (hst Crc.sumN 1 0) z40) 0 1 0 ∧ Wl.Good Crc.sumN (lay D 0 1 (hst Crc.sumN 1 0) z40) S 0 [] [] ∧ Aged (lay D 0 1 (hst Crc.sumN 1 0) z40) S (grt (lay D 0 1 (hst Crc.sumN 1 0) z40)) := by
  have hok : (hst Crc.sumN 1 0).ok := ⟨by show 1 < _; omega, by show 0 < _; omega, by show (0 : Nat) < 128; omega, Crc.sumN_lt _⟩
  have htl : z40.length = 40 * 1 := rfl
  have hst' : stampOf (lay D 0 1 (hst Crc.sumN 1 0) z40) 0 = hst Crc.sumN 1 0 := lay_stamp hok htl (by omega)
  have htx : textAt (lay D 0 1 (hst Crc.sumN 1 0) z40) 0 1 = z40 := lay_text htl
  have ho1 : lay D 0 1 (hst Crc.sumN 1 0) z40 1 = z64 := by rw [lay_off (by omega)]; exact h1
  have hoz : ∀ q, 2 ≤ q → q < beg S → lay D 0 1 (hst Crc.sumN 1 0) z40 q = z64 := fun q a b => by rw [lay_off (by omega)]; exact hz q a b
  have hlay : ∀ j, j < 2 → tagAt (lay D 0 1 (hst Crc.sumN 1 0) z40) 0 j = (hst Crc.sumN 1 0).tag j := fun j hj => by
    have := lay_tag (D := D) (P := 0) (c := 1) (i := 0) (j := j) (s := hst Crc.sumN 1 0) htl (by omega) hj
    rw [Nat.add_zero, Nat.mul_zero, Nat.zero_add] at this
    exact this
  generalize lay D 0 1 (hst Crc.sumN 1 0) z40 = N at *
  have hin : ∀ sg, sg < S → ∀ q, beg sg ≤ q → q < beg sg + 64 → N q = z64 := fun sg hs q a b => hoz q (by unfold beg at a; omega) (by unfold beg at *; omega)
  refine ⟨⟨by omega, ⟨fun i hi j hj => ?_, by rw [hst']; rfl, by rw [hst', htx]; rfl⟩, by rw [hst']; rfl, by rw [hst']; rfl, .inr ?_⟩, ⟨rfl, fun k g e => by simp at e, fun k g l e => by simp at e, fun g hg => by simp at hg, fun sg hs => ?_, fun sg hs Q s t hQ hg => ?_⟩, fun q a b j hj => ?_⟩
  · obtain rfl : i = 0 := by omega
    rw [hst', Nat.add_zero, hlay j hj, Nat.mul_zero, Nat.zero_add]
  · rw [show 1 - 0 = 1 from rfl, zero_stamp ho1]
    show (0 : Nat) < 1
    omega
  · unfold live
    rw [chain_none (zero_grp (hin sg hs _ (Nat.le_refl _) (by omega)))]
    rfl
  · have hg2 := grp_some.1 hg
    rw [zero_grp (hin sg hs Q hQ (by have := hg2.2.1; have := hg2.2.2.1; omega))] at hg
    cases hg
  · unfold ageAt
    rw [zero_tagAt (hoz q a b) hj]
    exact Nat.zero_le _
theorem erD_whole {D : Disk} (h : Whole D) (P j : Nat) : Whole (erD D P j) := fun q => by
  unfold erD
  split
  · rfl
  · exact h q
theorem fmt_ok {D : Disk} (hw : Whole D) {q S : Nat} (hq : q ≤ 1) : DiskOk Crc.sumN (fmtN D q S 4) S 0 [] := by
  have h := fresh_ok (S := S) (erD_whole (erD_whole (erD_whole hw (1 - q) 1) q 1) 2 (64 * S)) (by
    unfold erD
    rw [if_neg (by omega)]
    by_cases e : q = 1
    · rw [if_pos (by omega)]
    · rw [if_neg (by omega), if_pos (by omega)]) (fun k a b => by
    unfold erD
    rw [if_pos (by unfold beg at b; omega)])
  exact ⟨0, 1, [], h.1, h.2.1, h.2.2⟩
end Go.Proofs.YtelipeoilcepbaaDoor
