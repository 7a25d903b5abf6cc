/-
  Texts in one file: WlY WlZ WmA. Conditions: the tables and the errors read as the program's text lays them.
-/
import Derived.Test.YtelipeoilcepbaaDoorWp0
import Derived.Test.YtelipeoilcepbaaDoorWp21
namespace Go.Proofs.YtelipeoilcepbaaDoor
open Go.RowKit
open Wl (B8)
set_option linter.unusedVariables false
set_option linter.unusedSimpArgs false
set_option maxRecDepth 20000
theorem alw_two {P : Program} {md : Region.Mode} {ops : Array Oper} {Q : Exit → Act → World → Prop} {S : World → Prop} {i j : Nat} {o1 o2 : Oper} {n : Nat} {l : Array Bool} {a : Act} {w : World} (hr : Region.ready md ops l = [i, j]) (h1o : ops.toList[i]? = some o1) (h2o : ops.toList[j]? = some o2)
    (hw1 : Region.wanted o1 (yielded ops a.tmps) = true) (hw2 : Region.wanted o2 (yielded ops a.tmps) = true)
    (h1 : ∀ K : Act → World → Prop, Shut (∀ a' w', (S w' ∧ Alw P md ops Q S n (l.setIfInBounds i true) a' w') → K a' w') → o1.wp P a w K Q)
    (h2 : ∀ K : Act → World → Prop, Shut (∀ a' w', (S w' ∧ Alw P md ops Q S n (l.setIfInBounds j true) a' w') → K a' w') → o2.wp P a w K Q) : Alw P md ops Q S (n + 1) l a w := by
  refine ⟨fun h0 => (by rw [h0] at hr; cases hr), fun k hk => ?_⟩
  rw [hr] at hk
  have e1 : ops[i]? = some o1 := by rw [← h1o, Array.getElem?_toList]
  have e2 : ops[j]? = some o2 := by rw [← h2o, Array.getElem?_toList]
  rcases List.mem_cons.1 hk with rfl | hk
  · unfold wpOp
    simp only [e1, hw1, if_true]
    exact .inl (h1 _ fun _ _ h' => h')
  · obtain rfl : k = j := by simpa using hk
    unfold wpOp
    simp only [e2, hw2, if_true]
    exact .inl (h2 _ fun _ _ h' => h')
theorem wal_dsk {w : World} {x p i : Nat} {v : WalV} {vP vH : Value} (h : Blk w x 64 (walC p i v vP vH)) : w.rangeAt x 0 (dskV p i).toList := range_of_blk h 0 _ fun j u hj => by
  match j, hj with
  | 0, hj => exact hj
  | 1, hj => exact hj
  | j + 2, hj => simp [dskV] at hj
def WalV.turn (v : WalV) (f : Nat) : WalV := { v with slot := 1 - v.slot, age := v.age + 1, first := f }
theorem wal_store {p i : Nat} {v : WalV} {vP vH : Value} {f : Nat} {C : Array Value} (hs : C.size = (walC p i v vP vH).size) (hc : ∀ j, C[j]? = if 2 ≤ j ∧ j < 2 + (hdA (1 - v.slot) (v.age + 1) f true).size then (hdA (1 - v.slot) (v.age + 1) f true)[j - 2]? else (walC p i v vP vH)[j]?) : C = walC p i (v.turn f) vP vH := by
  have h4 : (hdA (1 - v.slot) (v.age + 1) f true).size = 4 := rfl
  apply Array.ext_getElem?
  intro j
  rw [hc, h4]
  match j with
  | 0 | 1 | 2 | 3 | 4 | 5 | 6 | 7 | 8 | 9 => rfl
  | j + 10 =>
    rw [if_neg (by omega), Array.getElem?_eq_none (by show 10 ≤ j + 10; omega), Array.getElem?_eq_none (by show 10 ≤ j + 10; omega)]
def RenewP (w : World) (F : Nat → Prop) (x p i : Nat) (v : WalV) (vP vH : Value) (d : AD) (s : AP) (K f : Nat) (r : Ending) (w' : World) : Prop :=
  ∃ e s' F', r = .returned (.int .i64 e) ∧ WLaid (Wl.lay (dkD d) (1 - v.slot) 1 (Wl.hst Crc.sumN (v.age + 1) f) Wl.z40) i d s e s' ∧ PlantAt w' p F' s' (K + 2) ∧ Turn (fun b => F b ∨ b = x) w w' ∧ (∀ b, F' b → F b ∨ w.heap.size ≤ b) ∧ WalB w' x p i (if e = 0 then v.turn f else v) vP vH
set_option maxRecDepth 20000 in
set_option maxHeartbeats 4000000 in
theorem renew_walk {w : World} {x p i : Nat} {v : WalV} {vP vH : Value} (h : WalB w x p i v vP vH) {F : Nat → Prop} {s : AP} {K : Nat} (hp : PlantAt w p F s K) (htab : Tab w) (d : AD) (hd : s.ds[i]? = some d) (hG : ∀ b, WalG x vP vH b → ¬ F b) (hsl : v.slot ≤ 1) (hag : v.age ≤ 1099511627776) (f : Nat) (hf : f ≤ 1099511627776) (hn : 2 ≤ d.n) (hK : K + 2 < 1099511627775) :
    Calls Tryd.prog 34 #[.pointer (some ⟨x, 0, none⟩), .int .i64 (f : Int)] w fun r w' => RenewP w F x p i v vP vH d s K f r w' := by
  have H := Lib.hid h
  have HPL := Lib.hid hp
  have HTAB := Lib.hid htab
  have HD := Lib.hid hd
  have HG := Lib.hid hG
  have HN := Lib.hid hn
  have HXF := Lib.hid (hG x (.inl rfl))
  clear h hp htab hd hG hn
  go_enter Tryd.func34, Tryd.ntmps34
  go_upto_region 0 with fail
  refine wp_region_lit ?_
  refine nR (.int .i64 0) (gx_assign rfl rfl) ?_;simp only [zz]
  go_upto_region 1 with fail
  obtain ⟨n, hn⟩ : ∃ n, n = w.heap.size := ⟨_, rfl⟩
  have HXL := Lib.hid H.out.blk.lt
  refine wp_region_alw (fun W => Blk W x 64 (walC p i v vP vH)) (by kernel_rfl) ?_
  have hS0 : (fun W => Blk W x 64 (walC p i v vP vH)) w.drew := H.out.blk.drew
  refine alw_take (i := 0) (v := .pointer (some ⟨x, 0, none⟩)) rfl (by kernel_rfl) (by kernel_rfl) (fun _ _ _ h => h) (.inl ⟨by rfl, fun W hW => exec_move rfl rfl⟩) hS0 ?_
  simp only [zz]
  refine alw_take (i := 1) (v := .pointer (some ⟨x, 0, none⟩)) rfl (by kernel_rfl) (by kernel_rfl) (fun _ _ _ h => h) (.inl ⟨by rfl, fun W hW => exec_nil rfl rfl⟩) hS0 ?_
  simp only [zz]
  refine alw_take (i := 2) (v := .pointer (some ⟨x, 2, none⟩)) rfl (by kernel_rfl) (by kernel_rfl) (fun _ _ _ h => h) (.inl ⟨by rfl, fun W hW => exec_field (off := 0) (d := 2) rfl rfl (by kernel_rfl)⟩) hS0 ?_
  simp only [zz]
  refine alw_take (i := 3) (v := .pointer (some ⟨x, 2, none⟩)) rfl (by kernel_rfl) (by kernel_rfl) (fun _ _ _ h => h) (.inl ⟨by rfl, fun W hW => exec_field (off := 2) (d := 0) rfl rfl (by kernel_rfl)⟩) hS0 ?_
  simp only [zz]
  refine alw_take (i := 4) (v := .int .i64 (v.slot : Int)) rfl (by kernel_rfl) (by kernel_rfl) (fun _ _ _ h => h) (.inl ⟨by rfl, fun W hW => exec_load1 rfl rfl (by kernel_rfl) (hW.cell 2)⟩) hS0 ?_
  simp only [zz]
  refine alw_take (i := 6) (v := .pointer (some ⟨x, 0, none⟩)) rfl (by kernel_rfl) (by kernel_rfl) (fun _ _ _ h => h) (.inl ⟨by rfl, fun W hW => exec_move rfl rfl⟩) hS0 ?_
  simp only [zz]
  refine alw_take (i := 7) (v := .pointer (some ⟨x, 0, none⟩)) rfl (by kernel_rfl) (by kernel_rfl) (fun _ _ _ h => h) (.inl ⟨by rfl, fun W hW => exec_nil rfl rfl⟩) hS0 ?_
  simp only [zz]
  refine alw_take (i := 8) (v := .pointer (some ⟨x, 2, none⟩)) rfl (by kernel_rfl) (by kernel_rfl) (fun _ _ _ h => h) (.inl ⟨by rfl, fun W hW => exec_field (off := 0) (d := 2) rfl rfl (by kernel_rfl)⟩) hS0 ?_
  simp only [zz]
  refine alw_take (i := 9) (v := .pointer (some ⟨x, 3, none⟩)) rfl (by kernel_rfl) (by kernel_rfl) (fun _ _ _ h => h) (.inl ⟨by rfl, fun W hW => exec_field (off := 2) (d := 1) rfl rfl (by kernel_rfl)⟩) hS0 ?_
  simp only [zz]
  refine alw_take (i := 10) (v := .int .i64 (v.age : Int)) rfl (by kernel_rfl) (by kernel_rfl) (fun _ _ _ h => h) (.inl ⟨by rfl, fun W hW => exec_load1 rfl rfl (by kernel_rfl) (hW.cell 3)⟩) hS0 ?_
  simp only [zz]
  refine alw_take (i := 11) (v := .int .i64 ((v.age + 1 : Nat) : Int)) rfl (by kernel_rfl) (by kernel_rfl) (fun _ _ _ h => h) (.inl ⟨by rfl, fun W hW => ix_add rfl rfl rfl (by omega) (by omega)⟩) hS0 ?_
  simp only [zz]
  refine alw_take (i := 12) (v := .int .i64 (f : Int)) rfl (by kernel_rfl) (by kernel_rfl) (fun _ _ _ h => h) (.inl ⟨by rfl, fun W hW => exec_move rfl rfl⟩) hS0 ?_
  simp only [zz]
  have HBN := Lib.hid (show Blk (w.drew.alloc (.cells (hdA 0 0 0 false) 62)) w.heap.size 62 (hdA 0 0 0 false) from Blk.new w.drew 62 (hdA 0 0 0 false))
  have HTN := Lib.hid ((Turn.refl nowhere w).drew.alloc (.cells (hdA 0 0 0 false) 62))
  have HSN := Lib.hid (show Blk (w.drew.alloc (.cells (hdA 0 0 0 false) 62)) x 64 (walC p i v vP vH) from H.out.blk.turn HTN.out fun e => e)
  have tail : ∀ K1 : Prop, K1 → K1 := fun _ h => h
  refine alw_two (i := 5) (j := 14) (by kernel_rfl) rfl rfl rfl rfl ?_ ?_
  · intro K1 HK1
    go_wp2_with fail
    refine (other_walk w.drew v.slot hsl).mono ?_
    rintro e w1 ⟨rfl, rfl⟩
    refine HK1.out _ _ ⟨hS0, ?_⟩
    clear HK1
    try simp only [zz]
    refine alw_take (i := 13) (v := .agg (hdA (1 - v.slot) (v.age + 1) f true)) rfl (by kernel_rfl) (by kernel_rfl) (fun _ _ _ h => h) (.inl ⟨by rfl, fun W hW => gx_build4 rfl rfl rfl rfl rfl (build_hd _ _ _ _ _)⟩) hS0 ?_
    simp only [zz]
    refine alw_step (i := 14) (by kernel_rfl) rfl rfl ?_
    intro K1 HK1
    refine wp_run (v := .pointer (some ⟨w.heap.size, 0, none⟩)) (w' := w.drew.alloc (.cells (hdA 0 0 0 false) 62)) (gx_alloc rfl (zero_hdr _)) ?_
    refine HK1.out _ _ ⟨HSN.out, ?_⟩
    clear HK1
    try simp only [zz]
    try rw [show (w.alloc (.cells (hdA 0 0 0 false) 62)).drew = w.drew.alloc (.cells (hdA 0 0 0 false) 62) from rfl]
    rw [← hn] at HBN ⊢
    have HNX := Lib.hid (show x ≠ n from by have := HXL.out; omega)
    generalize w.drew.alloc (.cells (hdA 0 0 0 false) 62) = w1 at *
    refine alw_step (i := 15) (by kernel_rfl) rfl rfl ?_
    intro K1 HK1
    refine wp_store_rowU 62 (.tmp 5) (.tmp 20) rfl (hdA (1 - v.slot) (v.age + 1) f true) HBN.out rfl rfl rfl (by rw [size_hdr]; rfl) (hdA_one _ _ _ _) ?_
    intro w2 hb2 ht2
    have hS2 : Blk w2 x 64 (walC p i v vP vH) := HSN.out.turn (F := only n) ht2 fun e => HNX.out e
    refine HK1.out _ _ ⟨hS2, ?_⟩
    clear HK1
    try simp only [zz]
    have HB2 := Lib.hid hb2
    have HT2 := Lib.hid (show Turn nowhere w w2 from HTN.out.trans ht2 fun k hk e => by have e : k = n := e; omega)
    have HX2 := Lib.hid hS2
    clear hb2 ht2 HSN HBN HTN
    refine alw_done rfl ?_
    refine NoPanic.normal ?_
    clear hS0 hS2
    try simp only [zz]
    go_upto_region 2 with fail
    refine wp_region_alw (fun W => Blk W x 64 (walC p i v vP vH) ∧ Blk W n 62 (hdA (1 - v.slot) (v.age + 1) f true)) (by kernel_rfl) ?_
    have hS0 : (fun W => Blk W x 64 (walC p i v vP vH) ∧ Blk W n 62 (hdA (1 - v.slot) (v.age + 1) f true)) w2.drew := ⟨HX2.out.drew, HB2.out.drew⟩
    have HD2 := Lib.hid ((Turn.refl nowhere w2).drew)
    generalize w2.drew = wd at *
    refine alw_take (i := 0) (v := .pointer (some ⟨x, 0, none⟩)) rfl (by kernel_rfl) (by kernel_rfl) (fun _ _ _ h => h) (.inl ⟨by rfl, fun W hW => exec_move rfl rfl⟩) hS0 ?_
    simp only [zz]
    refine alw_take (i := 1) (v := .pointer (some ⟨x, 0, none⟩)) rfl (by kernel_rfl) (by kernel_rfl) (fun _ _ _ h => h) (.inl ⟨by rfl, fun W hW => exec_nil rfl rfl⟩) hS0 ?_
    simp only [zz]
    refine alw_take (i := 2) (v := .pointer (some ⟨x, 0, none⟩)) rfl (by kernel_rfl) (by kernel_rfl) (fun _ _ _ h => h) (.inl ⟨by rfl, fun W hW => exec_field (off := 0) (d := 0) rfl rfl (by kernel_rfl)⟩) hS0 ?_
    simp only [zz]
    refine alw_take (i := 3) (v := .agg (dskV p i)) rfl (by kernel_rfl) (by kernel_rfl) (fun _ _ _ h => h) (.inl ⟨by rfl, fun W hW => gx_loads rfl rfl (wal_dsk hW.1) Tryd.underlying60 rfl (by rw [size_dsk]; rfl)⟩) hS0 ?_
    simp only [zz]
    refine alw_take (i := 4) (v := .agg (hdA (1 - v.slot) (v.age + 1) f true)) rfl (by kernel_rfl) (by kernel_rfl) (fun _ _ _ h => h) (.inl ⟨by rfl, fun W hW => gx_loads rfl rfl (blk_range hW.2) Tryd.underlying62 rfl (by rw [size_hdr]; rfl)⟩) hS0 ?_
    simp only [zz]
    have HTd := Lib.hid (HT2.out.trans HD2.out fun _ _ e => e)
    have HNF := Lib.hid (show ¬ F n from fun e => by have := HPL.out.lt e; omega)
    refine alw_step (i := 5) (by kernel_rfl) rfl rfl ?_
    intro K1 HK1
    go_wp2_with fail
    refine (layHeader_walk (HPL.out.turn HTd.out fun _ _ e => e) (tab_still HTAB.out HTd.out) i d HD.out (1 - v.slot) (v.age + 1) f true (by have := HN.out; omega) (by omega) (by omega) hK).mono ?_
    rintro e w4 ⟨e4, s4, rfl, hl, hgo⟩
    have hS2 : Blk w4 x 64 (walC p i v vP vH) ∧ Blk w4 n 62 (hdA (1 - v.slot) (v.age + 1) f true) := ⟨hS0.1.turn hgo.turned HXF.out, hS0.2.turn hgo.turned HNF.out⟩
    have HL := Lib.hid hl
    have HGO := Lib.hid (Goes2.behind HTd.out hgo)
    clear hl hgo
    refine HK1.out _ _ ⟨hS2, ?_⟩
    clear HK1 hS0
    try simp only [zz]
    refine alw_take (i := 6) (v := .int .i64 e4) rfl (by kernel_rfl) (by kernel_rfl) (fun _ _ _ h => h) (.inl ⟨by rfl, fun W hW => gx_assign rfl rfl⟩) hS2 ?_
    simp only [zz]
    refine alw_done rfl ?_
    refine NoPanic.normal ?_
    try simp only [zz]
    obtain ⟨F4, hp4, ht4, hf4⟩ := HGO.out
    have HX4 := Lib.hid hS2.1
    have HN4 := Lib.hid hS2.2
    have HP4 := Lib.hid hp4
    have HT4 := Lib.hid ht4
    have HF4 := Lib.hid hf4
    have HW4 := Lib.hid (H.out.turn ht4 fun b hb => HG.out b hb)
    clear hS2 hp4 ht4 hf4
    by_cases he : e4 = 0
    · subst he
      go_upto_region 3 with fail
      refine wp_region_lit ?_
      refine nR (.int .i64 0) (exec_move rfl rfl) ?_;simp only [zz];refine nR (.bool false) (ix_neq rfl rfl rfl (by decide)) ?_;simp only [zz]
      go_upto_region 5 with fail
      refine wp_region_lit ?_
      refine nR (.pointer (some ⟨x, 0, none⟩)) (exec_move rfl rfl) ?_;simp only [zz];refine nR (.agg (hdA (1 - v.slot) (v.age + 1) f true)) (gx_loads rfl rfl (blk_range HN4.out) Tryd.underlying62 rfl (by rw [size_hdr]; rfl)) ?_;simp only [zz];refine nR (.pointer (some ⟨x, 0, none⟩)) (exec_nil rfl rfl) ?_;simp only [zz];refine nR (.pointer (some ⟨x, 2, none⟩)) (exec_field (off := 0) (d := 2) rfl rfl (by kernel_rfl)) ?_;simp only [zz]
      refine wpList_store_mid (wanted_none rfl) 62 (.tmp 33) (.tmp 31) rfl (hdA (1 - v.slot) (v.age + 1) f true) HX4.out rfl rfl (by show 2 + 4 ≤ 10; omega) (by rw [size_hdr]; rfl) (hdA_one _ _ _ _) ?_
      intro w5 C5 hb5 hs5 hc5 ht5
      obtain rfl := wal_store hs5 hc5
      have HW5 := Lib.hid (show WalB w5 x p i (v.turn f) vP vH from ⟨hb5, HW4.out.pl.turn ht5 fun b e e2 => by
          obtain ⟨cur, hcur⟩ := (HW4.out.pl.lt e).2
          exact Blk.ne_ HX4.out hcur (by decide) (show b = x from e2).symm, HW4.out.he.turn ht5 fun b e e2 => by
          obtain ⟨cur, hcur⟩ := (HW4.out.he.lt e).2
          exact Blk.ne_ HX4.out hcur (by decide) (show b = x from e2).symm, HW4.out.apart⟩)
      have HP5 := Lib.hid (HP4.out.turn ht5 fun b hb e => by
          have e : b = x := e
          subst e
          rcases HF4.out b hb with h | h
          · exact HXF.out h
          · have := HXL.out; omega)
      have HT5 := Lib.hid (show Turn (fun b => F b ∨ b = x) w w5 from (HT4.out.mono fun _ _ e => .inl e).trans ht5 fun b _ e => .inr e)
      clear hb5 hs5 hc5 ht5
      simp only [zz]
      go_upto_region 6 with fail
      refine wp_region_lit ?_
      refine nR (.int .i64 0) (gx_assign rfl rfl) ?_;simp only [zz]
      go_wp2_with fail
      go_ret
      exact ⟨0, s4, F4, rfl, HL.out, HP5.out, HT5.out, HF4.out, by rw [if_pos rfl]; exact HW5.out⟩
    · go_upto_region 3 with fail
      refine wp_region_lit ?_
      refine nR (.int .i64 e4) (exec_move rfl rfl) ?_;simp only [zz];refine nR (.bool true) (ix_neq rfl rfl rfl (decide_eq_true he)) ?_;simp only [zz]
      go_upto_region 4 with fail
      refine wp_region_lit ?_
      refine nR (.int .i64 e4) (exec_move rfl rfl) ?_;simp only [zz];refine nR (.int .i64 e4) (gx_assign rfl rfl) ?_;simp only [zz]
      go_wp2_with fail
      go_ret
      have hq := HT4.out.mono (G := fun b => F b ∨ b = x) fun _ _ e => .inl e
      have hw : WalB w4 x p i (if e4 = 0 then v.turn f else v) vP vH := by rw [if_neg he]; exact HW4.out
      first
      | exact ⟨e4, s4, F4, rfl, HL.out, HP4.out, hq, HF4.out, hw⟩
  · intro K1 HK1
    refine wp_run (v := .pointer (some ⟨w.heap.size, 0, none⟩)) (w' := w.drew.alloc (.cells (hdA 0 0 0 false) 62)) (gx_alloc rfl (zero_hdr _)) ?_
    refine HK1.out _ _ ⟨HSN.out, ?_⟩
    clear HK1
    try simp only [zz]
    refine alw_step (i := 5) (by kernel_rfl) rfl rfl ?_
    intro K1 HK1
    go_wp2_with fail
    refine (other_walk _ v.slot hsl).mono ?_
    rintro e w1 ⟨rfl, rfl⟩
    refine HK1.out _ _ ⟨HSN.out, ?_⟩
    clear HK1
    try simp only [zz]
    refine alw_take (i := 13) (v := .agg (hdA (1 - v.slot) (v.age + 1) f true)) rfl (by kernel_rfl) (by kernel_rfl) (fun _ _ _ h => h) (.inl ⟨by rfl, fun W hW => gx_build4 rfl rfl rfl rfl rfl (build_hd _ _ _ _ _)⟩) HSN.out ?_
    simp only [zz]
    try rw [show (w.alloc (.cells (hdA 0 0 0 false) 62)).drew = w.drew.alloc (.cells (hdA 0 0 0 false) 62) from rfl]
    rw [← hn] at HBN ⊢
    have HNX := Lib.hid (show x ≠ n from by have := HXL.out; omega)
    generalize w.drew.alloc (.cells (hdA 0 0 0 false) 62) = w1 at *
    refine alw_step (i := 15) (by kernel_rfl) rfl rfl ?_
    intro K1 HK1
    refine wp_store_rowU 62 (.tmp 5) (.tmp 20) rfl (hdA (1 - v.slot) (v.age + 1) f true) HBN.out rfl rfl rfl (by rw [size_hdr]; rfl) (hdA_one _ _ _ _) ?_
    intro w2 hb2 ht2
    have hS2 : Blk w2 x 64 (walC p i v vP vH) := HSN.out.turn (F := only n) ht2 fun e => HNX.out e
    refine HK1.out _ _ ⟨hS2, ?_⟩
    clear HK1
    try simp only [zz]
    have HB2 := Lib.hid hb2
    have HT2 := Lib.hid (show Turn nowhere w w2 from HTN.out.trans ht2 fun k hk e => by have e : k = n := e; omega)
    have HX2 := Lib.hid hS2
    clear hb2 ht2 HSN HBN HTN
    refine alw_done rfl ?_
    refine NoPanic.normal ?_
    clear hS0 hS2
    try simp only [zz]
    go_upto_region 2 with fail
    refine wp_region_alw (fun W => Blk W x 64 (walC p i v vP vH) ∧ Blk W n 62 (hdA (1 - v.slot) (v.age + 1) f true)) (by kernel_rfl) ?_
    have hS0 : (fun W => Blk W x 64 (walC p i v vP vH) ∧ Blk W n 62 (hdA (1 - v.slot) (v.age + 1) f true)) w2.drew := ⟨HX2.out.drew, HB2.out.drew⟩
    have HD2 := Lib.hid ((Turn.refl nowhere w2).drew)
    generalize w2.drew = wd at *
    refine alw_take (i := 0) (v := .pointer (some ⟨x, 0, none⟩)) rfl (by kernel_rfl) (by kernel_rfl) (fun _ _ _ h => h) (.inl ⟨by rfl, fun W hW => exec_move rfl rfl⟩) hS0 ?_
    simp only [zz]
    refine alw_take (i := 1) (v := .pointer (some ⟨x, 0, none⟩)) rfl (by kernel_rfl) (by kernel_rfl) (fun _ _ _ h => h) (.inl ⟨by rfl, fun W hW => exec_nil rfl rfl⟩) hS0 ?_
    simp only [zz]
    refine alw_take (i := 2) (v := .pointer (some ⟨x, 0, none⟩)) rfl (by kernel_rfl) (by kernel_rfl) (fun _ _ _ h => h) (.inl ⟨by rfl, fun W hW => exec_field (off := 0) (d := 0) rfl rfl (by kernel_rfl)⟩) hS0 ?_
    simp only [zz]
    refine alw_take (i := 3) (v := .agg (dskV p i)) rfl (by kernel_rfl) (by kernel_rfl) (fun _ _ _ h => h) (.inl ⟨by rfl, fun W hW => gx_loads rfl rfl (wal_dsk hW.1) Tryd.underlying60 rfl (by rw [size_dsk]; rfl)⟩) hS0 ?_
    simp only [zz]
    refine alw_take (i := 4) (v := .agg (hdA (1 - v.slot) (v.age + 1) f true)) rfl (by kernel_rfl) (by kernel_rfl) (fun _ _ _ h => h) (.inl ⟨by rfl, fun W hW => gx_loads rfl rfl (blk_range hW.2) Tryd.underlying62 rfl (by rw [size_hdr]; rfl)⟩) hS0 ?_
    simp only [zz]
    have HTd := Lib.hid (HT2.out.trans HD2.out fun _ _ e => e)
    have HNF := Lib.hid (show ¬ F n from fun e => by have := HPL.out.lt e; omega)
    refine alw_step (i := 5) (by kernel_rfl) rfl rfl ?_
    intro K1 HK1
    go_wp2_with fail
    refine (layHeader_walk (HPL.out.turn HTd.out fun _ _ e => e) (tab_still HTAB.out HTd.out) i d HD.out (1 - v.slot) (v.age + 1) f true (by have := HN.out; omega) (by omega) (by omega) hK).mono ?_
    rintro e w4 ⟨e4, s4, rfl, hl, hgo⟩
    have hS2 : Blk w4 x 64 (walC p i v vP vH) ∧ Blk w4 n 62 (hdA (1 - v.slot) (v.age + 1) f true) := ⟨hS0.1.turn hgo.turned HXF.out, hS0.2.turn hgo.turned HNF.out⟩
    have HL := Lib.hid hl
    have HGO := Lib.hid (Goes2.behind HTd.out hgo)
    clear hl hgo
    refine HK1.out _ _ ⟨hS2, ?_⟩
    clear HK1 hS0
    try simp only [zz]
    refine alw_take (i := 6) (v := .int .i64 e4) rfl (by kernel_rfl) (by kernel_rfl) (fun _ _ _ h => h) (.inl ⟨by rfl, fun W hW => gx_assign rfl rfl⟩) hS2 ?_
    simp only [zz]
    refine alw_done rfl ?_
    refine NoPanic.normal ?_
    try simp only [zz]
    obtain ⟨F4, hp4, ht4, hf4⟩ := HGO.out
    have HX4 := Lib.hid hS2.1
    have HN4 := Lib.hid hS2.2
    have HP4 := Lib.hid hp4
    have HT4 := Lib.hid ht4
    have HF4 := Lib.hid hf4
    have HW4 := Lib.hid (H.out.turn ht4 fun b hb => HG.out b hb)
    clear hS2 hp4 ht4 hf4
    by_cases he : e4 = 0
    · subst he
      go_upto_region 3 with fail
      refine wp_region_lit ?_
      refine nR (.int .i64 0) (exec_move rfl rfl) ?_;simp only [zz];refine nR (.bool false) (ix_neq rfl rfl rfl (by decide)) ?_;simp only [zz]
      go_upto_region 5 with fail
      refine wp_region_lit ?_
      refine nR (.pointer (some ⟨x, 0, none⟩)) (exec_move rfl rfl) ?_;simp only [zz];refine nR (.agg (hdA (1 - v.slot) (v.age + 1) f true)) (gx_loads rfl rfl (blk_range HN4.out) Tryd.underlying62 rfl (by rw [size_hdr]; rfl)) ?_;simp only [zz];refine nR (.pointer (some ⟨x, 0, none⟩)) (exec_nil rfl rfl) ?_;simp only [zz];refine nR (.pointer (some ⟨x, 2, none⟩)) (exec_field (off := 0) (d := 2) rfl rfl (by kernel_rfl)) ?_;simp only [zz]
      refine wpList_store_mid (wanted_none rfl) 62 (.tmp 33) (.tmp 31) rfl (hdA (1 - v.slot) (v.age + 1) f true) HX4.out rfl rfl (by show 2 + 4 ≤ 10; omega) (by rw [size_hdr]; rfl) (hdA_one _ _ _ _) ?_
      intro w5 C5 hb5 hs5 hc5 ht5
      obtain rfl := wal_store hs5 hc5
      have HW5 := Lib.hid (show WalB w5 x p i (v.turn f) vP vH from ⟨hb5, HW4.out.pl.turn ht5 fun b e e2 => by
          obtain ⟨cur, hcur⟩ := (HW4.out.pl.lt e).2
          exact Blk.ne_ HX4.out hcur (by decide) (show b = x from e2).symm, HW4.out.he.turn ht5 fun b e e2 => by
          obtain ⟨cur, hcur⟩ := (HW4.out.he.lt e).2
          exact Blk.ne_ HX4.out hcur (by decide) (show b = x from e2).symm, HW4.out.apart⟩)
      have HP5 := Lib.hid (HP4.out.turn ht5 fun b hb e => by
          have e : b = x := e
          subst e
          rcases HF4.out b hb with h | h
          · exact HXF.out h
          · have := HXL.out; omega)
      have HT5 := Lib.hid (show Turn (fun b => F b ∨ b = x) w w5 from (HT4.out.mono fun _ _ e => .inl e).trans ht5 fun b _ e => .inr e)
      clear hb5 hs5 hc5 ht5
      simp only [zz]
      go_upto_region 6 with fail
      refine wp_region_lit ?_
      refine nR (.int .i64 0) (gx_assign rfl rfl) ?_;simp only [zz]
      go_wp2_with fail
      go_ret
      exact ⟨0, s4, F4, rfl, HL.out, HP5.out, HT5.out, HF4.out, by rw [if_pos rfl]; exact HW5.out⟩
    · go_upto_region 3 with fail
      refine wp_region_lit ?_
      refine nR (.int .i64 e4) (exec_move rfl rfl) ?_;simp only [zz];refine nR (.bool true) (ix_neq rfl rfl rfl (decide_eq_true he)) ?_;simp only [zz]
      go_upto_region 4 with fail
      refine wp_region_lit ?_
      refine nR (.int .i64 e4) (exec_move rfl rfl) ?_;simp only [zz];refine nR (.int .i64 e4) (gx_assign rfl rfl) ?_;simp only [zz]
      go_wp2_with fail
      go_ret
      have hq := HT4.out.mono (G := fun b => F b ∨ b = x) fun _ _ e => .inl e
      have hw : WalB w4 x p i (if e4 = 0 then v.turn f else v) vP vH := by rw [if_neg he]; exact HW4.out
      first
      | exact ⟨e4, s4, F4, rfl, HL.out, HP4.out, hq, HF4.out, hw⟩
end Go.Proofs.YtelipeoilcepbaaDoor
namespace Go.Proofs.YtelipeoilcepbaaDoor
open Go.RowKit
open Wl (B8)
set_option linter.unusedVariables false
set_option linter.unusedSimpArgs false
set_option maxRecDepth 20000
def nv (n : Nat) : Value := .int .i64 ((n : Nat) : Int)
theorem intInfo : (Tryd.prog.info? 3).map (fun i => (i.zero, i.size, i.bytes)) = some (some (.int .i64 0), 1, 8) := by kernel_rfl
theorem own_row1 {w : World} {B : Nat} {v : Value} {ns : List Nat} (h : w.ownsRow B 3 1 v ns.length (ns.map nv)) (hl : ns.length ≤ 1099511627776) : Row1 w v ns := by
  rcases h.2 with ⟨rfl, h0⟩ | ⟨g, cap, cur, rfl, hb1, hg, h1, h2, h3, h4⟩
  · exact ⟨none, 0, by rw [h0], by omega, ⟨by unfold maxLen; omega, hl⟩, .inl ⟨rfl, rfl⟩⟩
  · refine ⟨some ⟨g, 0, none⟩, cap, rfl, h1, ⟨h2, hl⟩, .inr ⟨g, 0, cur, rfl, hg, by omega, fun j n hj => ?_⟩⟩
    have hjl := (List.getElem?_eq_some_iff.1 hj).1
    have e : (cur.toList.take (ns.length * 1))[j]? = some (nv n) := by rw [h4, List.getElem?_map, hj]; rfl
    rw [List.getElem?_take, if_pos (by omega), Array.getElem?_toList] at e
    rw [Nat.zero_add]; exact e
theorem row1_add {w : World} {v : Value} {ns : List Nat} {n : Nat} {ty : TypeId} (h : Row1 w v ns) (hl : ns.length < 1099511627776) :
    ∃ v' w', (Builtin.append_ #[34, 34] ty #[v, .slice (some ⟨w.heap.size, 0, none⟩) 1 1]).run Tryd.prog (w.alloc (.cells #[nv n] 3)) = .ok v' w' ∧ Row1 w' v' (ns ++ [n]) ∧ Turn (fun b => v.ownBlock = some b) w w' ∧ (∀ b, v'.ownBlock = some b → v.ownBlock = some b ∨ w.heap.size ≤ b) := by
  obtain ⟨i0, hi0, hz0, hz1, hz2⟩ := info_parts intInfo
  have ht := (Turn.refl nowhere w).alloc (.cells #[nv n] 3)
  have hnew : ∀ j u, [nv n][j]? = some u → (w.alloc (.cells #[nv n] 3)).cell? ((⟨w.heap.size, 0, none⟩ : Addr).add j) = some u := fun j u hj => by
    rw [add_at, Nat.zero_add, (Blk.new w 3 #[nv n]).cell]
    simpa using hj
  have h' := h.turn ht fun _ _ e => e
  obtain ⟨A, c, rfl, h1, h2, h3⟩ := h'
  have hmap : (ns ++ [n]).map nv = ns.map nv ++ [nv n] := by simp
  have hlen : (ns ++ [n]).length = ns.length + 1 := by simp
  by_cases hroom : ns.length + 1 ≤ c
  · rcases h3 with ⟨rfl, e⟩ | ⟨g, off, cur, rfl, hg, hcs, hcc⟩
    · omega
    have hr := run_append_room_cells (P := Tryd.prog) (w.alloc (.cells #[nv n] 3)) 34 ty 3 i0 Tryd.underlying34 hi0 g off ns.length c ⟨w.heap.size, 0, none⟩ 1 1 [nv n] (by rw [hz1]; rfl) hnew (fun u hu => by rw [List.mem_singleton.1 hu]; rfl) hroom (fun j hj => by
      have hj : j = 0 := by simpa using hj
      subst hj
      rw [hz1, hg.cell, Array.getElem?_eq_getElem (by omega)]; rfl) (fun j hj => hg.frozen _)
    rw [hz1] at hr
    obtain ⟨C', c1, c2, c3⟩ := setCells_blk [nv n] (w.alloc (.cells #[nv n] 3)) g (off + ns.length * 1) 3 cur hg
    have ht2 := setCells_turn [nv n] (w.alloc (.cells #[nv n] 3)) g (off + ns.length * 1)
    generalize (w.alloc (.cells #[nv n] 3)).setCells g (off + ns.length * 1) [nv n] = w' at *
    refine ⟨_, w', hr, ⟨some ⟨g, off, none⟩, c, by rw [hlen], by rw [hlen]; exact hroom, ⟨h2.1, by rw [hlen]; omega⟩, .inr ⟨g, off, C', rfl, c1, by rw [c2]; exact hcs, fun j m hj => ?_⟩⟩, (ht.mono fun _ _ e => e.elim).trans ht2 (fun b _ e => by have e : b = g := e; exact congrArg some e.symm), fun b e => .inl e⟩
    rw [c3]
    by_cases hjn : j < ns.length
    · rw [List.getElem?_append_left hjn] at hj
      rw [if_neg (by omega)]
      exact hcc j m hj
    · have hj2 : j = ns.length := by have := (List.getElem?_eq_some_iff.1 hj).1; rw [hlen] at this; omega
      subst hj2
      rw [List.getElem?_append_right (Nat.le_refl _), Nat.sub_self] at hj
      have hj : n = m := by simpa using hj
      subst hj
      rw [if_pos ⟨by omega, by simp, by omega⟩]
      simp [nv]
  · have hc : c = ns.length := by omega
    subst hc
    rcases h3 with ⟨rfl, e⟩ | ⟨g, off, cur, rfl, hg, hcs, hcc⟩
    · obtain rfl : ns = [] := List.eq_nil_of_length_eq_zero e
      obtain ⟨v', w', q1, q2, q3, _⟩ := run_append_own (P := Tryd.prog) (w.alloc (.cells #[nv n] 3)) w.heap.size 34 ty 3 i0 _ 1 8 Tryd.underlying34 hi0 hz0 hz1 hz2 rfl (by omega) (.slice none 0 0) 0 [] (World.ownsRow_nil _ _ _ _) ⟨w.heap.size, 0, none⟩ 1 1 [nv n] rfl hnew (fun u hu => by rw [List.mem_singleton.1 hu]; rfl) (by unfold maxLen; omega) (by omega) ht.size
      refine ⟨v', w', q1, own_row1 (by simpa using q2) (by simp), (ht.mono fun _ _ e => e.elim).grown q3 (fun g e => by cases e), fun b e => .inr (q2.lt b e).1⟩
    · obtain ⟨v', w', q1, q2, q3⟩ := run_append_arg_grows (P := Tryd.prog) (w.alloc (.cells #[nv n] 3)) 34 ty 3 i0 _ 1 8 Tryd.underlying34 hi0 hz0 hz1 hz2 rfl (by omega) ⟨g, off, none⟩ ns.length ns.length (ns.map nv) (by simp) (fun j u hj => by
        rw [add_at, hg.cell]
        rw [List.getElem?_map] at hj
        cases hn : ns[j]? with
        | none => rw [hn] at hj; cases hj
        | some m => rw [hn] at hj; injection hj with hj; rw [← hj]; exact hcc j m hn) ⟨w.heap.size, 0, none⟩ 1 1 [nv n] rfl hnew (by omega) (by unfold maxLen; omega) (by omega)
      refine ⟨v', w', q1, own_row1 (by rw [hmap, hlen]; exact q2) (by rw [hlen]; omega), (ht.mono fun _ _ e => e.elim).grown q3 (fun g e => by cases e), fun b e => .inr (Nat.le_trans ht.size (q2.lt b e).1)⟩
theorem row1_set {w w' : World} {v : Value} {ns : List Nat} {g off c i n : Nat} (h : Row1 w v ns) (hv : v = .slice (some ⟨g, off, none⟩) ns.length c) (hi : i < ns.length) (hw : ∀ cur, Blk w g 3 cur → Blk w' g 3 (cur.setIfInBounds (off + i) (nv n))) : Row1 w' v (ns.set i n) := by
  obtain ⟨A, c', e, h1, h2, h3⟩ := h
  rw [hv] at e
  injection e with e1 e2 e3
  subst e1 e3
  rcases h3 with ⟨h3, _⟩ | ⟨g', off', cur, e, hg, hcs, hcc⟩
  · cases h3
  injection e with e
  injection e with e4 e5
  subst e4 e5
  refine ⟨_, c, by rw [hv, List.length_set], by rw [List.length_set]; exact h1, ⟨h2.1, by rw [List.length_set]; exact h2.2⟩, .inr ⟨g, off, _, rfl, hw cur hg, by simpa using hcs, fun j m hj => ?_⟩⟩
  rw [Array.getElem?_setIfInBounds]
  rw [List.getElem?_set] at hj
  by_cases hij : i = j
  · subst hij
    rw [if_pos rfl, if_pos hi] at hj
    injection hj with hj
    subst hj
    rw [if_pos rfl, if_pos (by omega)]
    rfl
  · rw [if_neg hij] at hj
    rw [if_neg (by omega)]
    exact hcc j m hj
end Go.Proofs.YtelipeoilcepbaaDoor
namespace Go.Proofs.YtelipeoilcepbaaDoor
open Go.RowKit
open Wl (B8)
set_option linter.unusedVariables false
set_option linter.unusedSimpArgs false
set_option maxRecDepth 20000
def WalV.add (v : WalV) (P c : Nat) : WalV := { v with places := v.places ++ [P], held := v.held.set ((P - 2) / 64) ((v.held.getD ((P - 2) / 64) 0) + 1), seg := (P - 2) / 64, used := P + c - (2 + 64 * ((P - 2) / 64)) }
theorem build_one1 (n : Nat) (W : World) : (Instr.buildSlice 34 1 #[(0, .int .i64 ((n : Nat) : Int))]).run Tryd.prog W = .ok (.slice (some ⟨W.heap.size, 0, none⟩) 1 1) (W.alloc (.cells #[nv n] 3)) := by kernel_rfl
theorem oneV (A : Option Addr) (n c : Nat) : (Value.slice A n c).cells = #[.slice A n c] ∧ (Value.slice A n c).oneCell' = true := ⟨rfl, rfl⟩
theorem Row1.one {w : World} {v : Value} {ns : List Nat} (h : Row1 w v ns) : v.cells = #[v] ∧ v.oneCell' = true := by
  obtain ⟨A, c, rfl, _⟩ := h
  exact oneV _ _ _
def AddP (w : World) (x p i : Nat) (v : WalV) (vP vH : Value) (P c : Nat) (w' : World) : Prop :=
  ∃ vP', WalB w' x p i (v.add P c) vP' vH ∧ Turn (WalG x vP vH) w w' ∧ (∀ b, vP'.ownBlock = some b → vP.ownBlock = some b ∨ w.heap.size ≤ b)
set_option maxRecDepth 20000 in
set_option maxHeartbeats 4000000 in
theorem add_walk2 {w : World} {x p i : Nat} {v : WalV} {vP vH : Value} (h : WalB w x p i v vP vH) (P c : Nat) (hP : 2 ≤ P) (hc : P + c ≤ 1048576) (hcc : 2 + 64 * ((P - 2) / 64) ≤ P + c) (hs : (P - 2) / 64 < v.held.length) (hh : v.held.getD ((P - 2) / 64) 0 ≤ 1099511627776) (hl : v.places.length < 1099511627776) :
    Calls Tryd.prog 31 #[.pointer (some ⟨x, 0, none⟩), .int .i64 (P : Int), .int .i64 (c : Int)] w fun r w' => r = .returned (.tuple #[]) ∧ AddP w x p i v vP vH P c w' := by
  have H := Lib.hid h
  obtain ⟨sg, hsg⟩ : ∃ sg, sg = (P - 2) / 64 := ⟨_, rfl⟩
  have HSG := Lib.hid hsg
  have HADD := Lib.hid (show v.add P c = { v with places := v.places ++ [P], held := v.held.set sg ((v.held.getD sg 0) + 1), seg := sg, used := P + c - (2 + 64 * sg) } from by rw [hsg]; rfl)
  rw [← hsg] at hs hh hcc
  have ysg : sg ≤ 20000 := by omega
  have HSL := Lib.hid hs
  have HLL := Lib.hid hl
  clear h hs hl hsg
  go_enter Tryd.func31, Tryd.ntmps31
  go_upto_region 0 with fail
  refine wp_region_lit ?_
  refine nR (.int .i64 (P : Int)) (exec_move rfl rfl) ?_;simp only [zz]
  refine wpList_op rfl fun K9 HK9 => ?_
  go_wp2_with fail
  refine (segmentOf_walk w P (by omega) (by omega)).mono ?_
  rintro e w ⟨rfl, rfl⟩
  refine HK9.out _ _ ?_
  clear HK9
  try simp only [zz]
  rw [← HSG.out]
  refine nR (.int .i64 (sg : Int)) (gx_assign rfl rfl) ?_;simp only [zz]
  go_upto_region 1 with fail
  refine wp_region_lit ?_
  refine nR (.pointer (some ⟨x, 0, none⟩)) (exec_move rfl rfl) ?_;simp only [zz];refine nR (.pointer (some ⟨x, 0, none⟩)) (exec_move rfl rfl) ?_;simp only [zz];refine nR (.pointer (some ⟨x, 0, none⟩)) (exec_nil rfl rfl) ?_;simp only [zz];refine nR (.pointer (some ⟨x, 6, none⟩)) (exec_field (off := 0) (d := 6) rfl rfl (by kernel_rfl)) ?_;simp only [zz];refine nR (vP) (exec_load1 rfl rfl (by kernel_rfl) (H.out.blk.cell 6)) ?_;simp only [zz];refine nR (.int .i64 (P : Int)) (exec_move rfl rfl) ?_;simp only [zz]
  obtain ⟨vQ, w3, hap, hrow, ht3, hown⟩ := row1_add (n := P) (ty := 34) H.out.pl HLL.out
  have HAP := Lib.hid hap
  have HROW := Lib.hid hrow
  have HT3 := Lib.hid (show Turn (WalG x vP vH) w w3 from ht3.mono fun b _ e => .inr (.inl e))
  have HOWN := Lib.hid hown
  have HNX := Lib.hid (show ∀ b, (vP.ownBlock = some b ∨ vH.ownBlock = some b) → x ≠ b from fun b e => by
    rcases e with e | e
    · obtain ⟨cur, hcur⟩ := (H.out.pl.lt e).2
      exact Blk.ne_ H.out.blk hcur (by decide)
    · obtain ⟨cur, hcur⟩ := (H.out.he.lt e).2
      exact Blk.ne_ H.out.blk hcur (by decide))
  have HBX3 := Lib.hid (H.out.blk.turn ht3 fun e => HNX.out x (.inl e) rfl)
  have HHE3 := Lib.hid (H.out.he.turn ht3 fun b e e2 => H.out.apart b e2 e)
  have HXQ := Lib.hid (show ∀ b, vQ.ownBlock = some b → b ≠ x from fun b e e2 => by
    subst e2
    rcases hown b e with e3 | e3
    · exact HNX.out b (.inl e3) rfl
    · have := H.out.blk.lt; omega)
  have HAPT := Lib.hid (show ∀ b, vQ.ownBlock = some b → vH.ownBlock ≠ some b from fun b e e2 => by
    rcases hown b e with e3 | e3
    · exact H.out.apart b e3 e2
    · have := (H.out.he.lt e2).1; omega)
  clear hap hrow ht3 hown
  refine wpList_run (v := .slice (some ⟨w.heap.size, 0, none⟩) 1 1) (w' := w.alloc (.cells #[nv P] 3)) (wanted_none rfl) (exec_buildSlice1 rfl rfl (build_one1 _ _)) ?_;simp only [zz];refine wpList_run (v := vQ) (w' := w3) (wanted_none rfl) (exec_append rfl rfl rfl HAP.out) ?_;simp only [zz];refine nR (.pointer (some ⟨x, 0, none⟩)) (exec_nil rfl rfl) ?_;simp only [zz];refine nR (.pointer (some ⟨x, 6, none⟩)) (exec_field (off := 0) (d := 6) rfl rfl (by kernel_rfl)) ?_;simp only [zz]
  refine wpList_storeU 6 vQ (wanted_none rfl) 34 (.tmp 18) (.tmp 16) rfl HBX3.out rfl rfl (by show 6 < 10; decide) HROW.out.one (by kernel_rfl) ?_
  intro w4 hb ht
  have HBX4 := Lib.hid (show Blk w4 x 64 (walC p i { v with places := v.places ++ [P] } vQ vH) from hb)
  have HROW4 := Lib.hid (HROW.out.turn ht fun b e e2 => HXQ.out b e e2)
  have HHE4 := Lib.hid (HHE3.out.turn ht fun b e e2 => HNX.out b (.inr e) (show b = x from e2).symm)
  have HT4 := Lib.hid (HT3.out.trans ht fun b _ e => .inl e)
  clear hb ht HBX3 HROW HHE3 HT3
  simp only [zz]
  obtain ⟨n, hn⟩ : ∃ n, v.held[sg]? = some n := ⟨_, List.getElem?_eq_getElem HSL.out⟩
  have hgd : v.held.getD sg 0 = n := by rw [List.getD_eq_getElem?_getD, hn]; rfl
  rw [hgd] at HADD hh
  obtain ⟨g, off, cp, hvH, hcell⟩ := HHE4.out.at_ hn
  have HCE := Lib.hid hcell
  have HVH := Lib.hid hvH
  clear hcell hgd
  go_upto_region 2 with fail
  refine wp_region_lit ?_
  refine nR (.pointer (some ⟨x, 0, none⟩)) (exec_move rfl rfl) ?_;simp only [zz];refine nR (.pointer (some ⟨x, 0, none⟩)) (exec_nil rfl rfl) ?_;simp only [zz];refine nR (.pointer (some ⟨x, 7, none⟩)) (exec_field (off := 0) (d := 7) rfl rfl (by kernel_rfl)) ?_;simp only [zz];refine nR (.slice (some ⟨g, off, none⟩) v.held.length cp) (exec_load1 rfl rfl (by kernel_rfl) ((HBX4.out.cell 7).trans (by rw [← HVH.out]; rfl))) ?_;simp only [zz];refine nR (.int .i64 (sg : Int)) (exec_move rfl rfl) ?_;simp only [zz];refine nR (.pointer (some ⟨g, off + sg, none⟩)) (gx_iaddr (i := sg) (sz := 1) rfl rfl rfl Tryd.underlying34 size_int HSL.out (by omega)) ?_;simp only [zz];refine nR (.int .i64 (n : Int)) (exec_load1 rfl rfl (by kernel_rfl) HCE.out) ?_;simp only [zz];refine nR (.int .i64 ((n + 1 : Nat) : Int)) (ix_add rfl rfl rfl (by omega) (by omega)) ?_;simp only [zz];refine nR (.pointer (some ⟨g, off + sg, none⟩)) (gx_iaddr (i := sg) (sz := 1) rfl rfl rfl Tryd.underlying34 size_int HSL.out (by omega)) ?_;simp only [zz]
  obtain ⟨cur, hcur⟩ := (HHE4.out.lt (b := g) (by rw [hvH]; rfl)).2
  have hsz : off + sg < cur.size := by
    have := HCE.out
    rw [hcur.cell] at this
    exact (Array.getElem?_eq_some_iff.1 this).1
  refine wpList_storeU (off + sg) (nv (n + 1)) (wanted_none rfl) 3 (.tmp 27) (.tmp 26) rfl hcur rfl rfl hsz ⟨rfl, rfl⟩ size_int ?_
  intro w5 hb ht
  have hxg : x ≠ g := HNX.out g (.inr (by rw [hvH]; rfl))
  have HBX5 := Lib.hid (HBX4.out.turn (F := only g) ht fun e => hxg e)
  have HROW5 := Lib.hid (HROW4.out.turn (F := only g) ht fun b e e2 => HAPT.out b e (by rw [hvH]; exact congrArg some (show b = g from e2).symm))
  have HHE5 := Lib.hid (row1_set HHE4.out hvH HSL.out fun cur' hcur' => by rw [← Blk.inj hcur hcur']; exact hb)
  have HT5 := Lib.hid (HT4.out.trans ht fun b _ e => .inr (.inr (by rw [hvH]; exact congrArg some (show b = g from e).symm)))
  clear hb ht hcur hsz HBX4 HROW4 HHE4 HT4
  simp only [zz]
  go_upto_region 3 with fail
  refine wp_region_lit ?_
  refine nR (.pointer (some ⟨x, 0, none⟩)) (exec_move rfl rfl) ?_;simp only [zz];refine nR (.pointer (some ⟨x, 0, none⟩)) (exec_move rfl rfl) ?_;simp only [zz];refine nR (.int .i64 (sg : Int)) (exec_move rfl rfl) ?_;simp only [zz];refine nR (.int .i64 (P : Int)) (exec_move rfl rfl) ?_;simp only [zz];refine nR (.int .i64 (c : Int)) (exec_move rfl rfl) ?_;simp only [zz];refine nR (.int .i64 ((P + c : Nat) : Int)) (ix_add rfl rfl rfl (by omega) (by omega)) ?_;simp only [zz];refine nR (.int .i64 (sg : Int)) (exec_move rfl rfl) ?_;simp only [zz]
  refine wpList_op rfl fun K9 HK9 => ?_
  go_wp2_with fail
  refine (begin_walk w5 sg (by omega)).mono ?_
  rintro e w5 ⟨rfl, rfl⟩
  refine HK9.out _ _ ?_
  clear HK9
  try simp only [zz]
  refine nR (.int .i64 ((P + c - (2 + 64 * sg) : Nat) : Int)) (ix_sub rfl rfl rfl (by omega) (by omega)) ?_;simp only [zz];refine nR (.pointer (some ⟨x, 0, none⟩)) (exec_nil rfl rfl) ?_;simp only [zz];refine nR (.pointer (some ⟨x, 8, none⟩)) (exec_field (off := 0) (d := 8) rfl rfl (by kernel_rfl)) ?_;simp only [zz]
  refine wpList_storeU 8 (.int .i64 (sg : Int)) (wanted_none rfl) 3 (.tmp 38) (.tmp 30) rfl HBX5.out rfl rfl (by show 8 < 10; decide) ⟨rfl, rfl⟩ size_int ?_
  intro w6 hb6 ht6
  simp only [zz];refine nR (.pointer (some ⟨x, 0, none⟩)) (exec_nil rfl rfl) ?_;simp only [zz];refine nR (.pointer (some ⟨x, 9, none⟩)) (exec_field (off := 0) (d := 9) rfl rfl (by kernel_rfl)) ?_;simp only [zz]
  refine wpList_storeU 9 (.int .i64 ((P + c - (2 + 64 * sg) : Nat) : Int)) (wanted_none rfl) 3 (.tmp 40) (.tmp 36) rfl hb6 rfl rfl (by simp [walC]) ⟨rfl, rfl⟩ size_int ?_
  intro w7 hb7 ht7
  have ht57 := ht6.trans ht7 fun _ _ e => e
  try simp only [zz]
  go_wp2_with fail
  go_end0
  refine ⟨rfl, vQ, ?_, HT5.out.trans ht57 fun b _ e => .inl e, HOWN.out⟩
  rw [HADD.out]
  exact ⟨hb7, HROW5.out.turn ht57 fun b e e2 => HXQ.out b e e2, HHE5.out.turn ht57 fun b e e2 => HNX.out b (.inr e) (show b = x from e2).symm, HAPT.out⟩
end Go.Proofs.YtelipeoilcepbaaDoor
