/-
  Texts in one file: WmFo. Conditions: the tables and the errors read as the program's text lays them.
-/
import Derived.Test.YtbfeejkdlhdioaaDoorJF0
import Derived.Test.YtbfeejkdlhdioaaDoorJF36
import Derived.Deep.Cut
import Derived.Test.YtbfeejkdlhdioaaDoorJF35
namespace Go.Proofs.YtbfeejkdlhdioaaDoor
open Go.RowKit
open Wl (B8)
set_option linter.unusedVariables false
set_option linter.unusedSimpArgs false
set_option maxRecDepth 20000
theorem build_bk0 (W : World) : (Instr.build 32 #[]).run Tryd.prog W = .ok (.agg #[.int .i64 0, .slice none 0 0]) W := by kernel_rfl
theorem size_intF : (Tryd.prog.info? 3).map (·.size) = some 1 := by kernel_rfl
/-- a row of texts of the call's own, the texts anywhere in Y but in the row itself -/
def Grow (w : World) (B : Nat) (Y : Nat → Prop) (v : Value) (txs : Wl.Rec) : Prop := ∃ vs : List Value, Orw w B 38 1 v (vs.map one1) ∧ vs.length = txs.length ∧ ∀ (i : Nat) (u : Value) (x : B8), vs[i]? = some u → txs[i]? = some x → TxZ w (fun k => (k < w.heap.size ∧ Y k) ∧ v.ownBlock ≠ some k) u x
theorem Grow.still {w w' : World} {B : Nat} {Y : Nat → Prop} {v : Value} {txs : Wl.Rec} (h : Grow w B Y v txs) (ht : Turn nowhere w w') : Grow w' B Y v txs := by
  obtain ⟨vs, h1, h2, h3⟩ := h
  exact ⟨vs, h1.still ht, h2, fun i u x hu hx => ((h3 i u x hu hx).still ht).mono fun k hk => ⟨⟨Nat.lt_of_lt_of_le hk.1.1 ht.size, hk.1.2⟩, hk.2⟩⟩
theorem Grow.form {w : World} {B : Nat} {Y : Nat → Prop} {v : Value} {txs : Wl.Rec} (h : Grow w B Y v txs) : ∃ A c, v = .slice A txs.length c := by
  obtain ⟨vs, h1, h2, _⟩ := h
  obtain ⟨A, c, e, _⟩ := h1.form
  rw [List.length_map, h2] at e
  exact ⟨A, c, e⟩
theorem Grow.lsz {w : World} {B : Nat} {Y : Nat → Prop} {v : Value} {txs : Wl.Rec} (h : Grow w B Y v txs) (hY : ∀ k, B ≤ k → Y k) (hl : txs.length ≤ 1000) : LsZ w Y v txs := by
  obtain ⟨vs, h1, h2, h3⟩ := h
  obtain ⟨A, c, e, h4, _, h5, _⟩ := h1.form
  rw [List.length_map, h2] at e h4
  subst e
  have h6 := h1.rws (by rw [List.length_map, h2]; omega) (by decide)
  exact ⟨A, _, c, vs, rfl, h6, h2, fun i u x hu hx => (h3 i u x hu hx).mono fun k hk => hk.1.2, h5, by omega, (orw_inZ h1).mono hY⟩
/-- one more -/
theorem grow_next {W0 w : World} {Y : Nat → Prop} {v : Value} {txs : Wl.Rec} {A : Option Addr} {m c : Nat} {x : B8} {ty : TypeId} (h : Grow w W0.heap.size Y v txs) (hT : Turn nowhere W0 w) (hi : txs.length ≤ 1000) (ht : TxZ w (fun k => (k < w.heap.size ∧ Y k) ∧ v.ownBlock ≠ some k) (.slice A m c) x) :
    ∃ A' c' w', (Builtin.append_ #[33, 33] ty #[v, .slice (some ⟨w.heap.size, 0, none⟩) 1 1]).run Tryd.prog (w.alloc (.cells #[.slice A m c] 38)) = .ok (.slice A' (txs.length + 1) c') w' ∧ Grow w' W0.heap.size Y (.slice A' (txs.length + 1) c') (txs ++ [x]) ∧ Turn nowhere W0 w' := by
  obtain ⟨vs, h1, h2, h3⟩ := h
  have hal := (Turn.refl nowhere w).alloc (.cells #[.slice A m c] 38)
  have h1' := h1.still hal
  have hfit : Fit 1 [one1 (.slice A m c)] := Fit.one rfl fun u hu => by
    obtain rfl : u = .slice A m c := by simpa [one1] using hu
    rfl
  obtain ⟨A', c', w', hrun, how, hgr, hob⟩ := orw_grow elmT8 (ty := ty) (m := 1) (c := 1) h1' (by have := hT.size; have := hal.size; omega) (rws_one (w := w) (r := one1 (.slice A m c)) (et := 38) (k := 1) rfl fun _ => trivial) hfit (fun e => by cases e) (by rw [List.length_map, h2]; omega)
  rw [List.length_map, h2] at hrun how hob
  have htt : Turn nowhere W0 w' := (hT.trans hal fun _ _ e => e).grown hgr fun g e hg => by
    have := (h1'.lt e).1
    omega
  have hsz := hal.size
  have hsg := hgr.size
  have key : ∀ (u : Value) (y : B8), TxZ w (fun k => (k < w.heap.size ∧ Y k) ∧ v.ownBlock ≠ some k) u y → TxZ w' (fun k => (k < w'.heap.size ∧ Y k) ∧ (Value.slice A' (txs.length + 1) c').ownBlock ≠ some k) u y := fun u y hu => by
    have g1 := (hu.still hal).turn ((Turn.refl (fun k => v.ownBlock = some k) _).grown hgr fun g e _ => e) fun k hk _ e => hk.2 e
    refine g1.mono fun k hk => ⟨⟨by omega, hk.1.2⟩, fun e => ?_⟩
    rcases hob with e2 | e2
    · rw [e2] at e
      exact hk.2 e
    · rw [e2] at e
      have := Option.some.inj e
      omega
  refine ⟨A', c', w', hrun, ⟨vs ++ [.slice A m c], by rw [List.map_append]; exact how, by simp [h2], fun j u y hu hy => ?_⟩, htt⟩
  by_cases hj : j < vs.length
  · rw [List.getElem?_append_left hj] at hu
    rw [List.getElem?_append_left (by omega)] at hy
    exact key u y (h3 j u y hu hy)
  · rw [List.getElem?_append_right (by omega)] at hu hy
    have hj2 : j = vs.length := by
      have := (List.getElem?_eq_some_iff.1 hu).1
      simp at this
      omega
    subst hj2
    rw [Nat.sub_self] at hu
    rw [h2, Nat.sub_self] at hy
    obtain rfl : Value.slice A m c = u := by simpa using hu
    obtain rfl : x = y := by simpa using hy
    exact key _ _ ht
theorem Sg.imp {w wr : World} {p x b S f B : Nat} {n : Int} {L G : List Wl.Rec} {φ ψ : Int → Prop} {u : Value} {l : Wl.Rec} (h : Sg w wr p x b S n f B L G φ u l) (hi : ∀ z, φ z → ψ z) : Sg w wr p x b S n f B L G ψ u l := by
  obtain ⟨F, s, K, d, v, vP, vH, gs, Z, ⟨h1, h2, h3, h4⟩, h5⟩ := h
  exact ⟨F, s, K, d, v, vP, vH, gs, Z, ⟨h1, h2, hi _ h3, h4⟩, h5⟩
set_option maxRecDepth 20000 in
set_option maxHeartbeats 4000000 in
theorem walForged_main (A0 : Option Addr) (n0 c0 : Nat) (l0 : Wl.Rec) (A1 : Option Addr) (n1 c1 : Nat) (zs : List Int) (A2 : Option Addr) (n2 c2 : Nat) (ks : List Int) (w : World) (h0 : Ls w A0 n0 l0) (h1 : Ks w nowhere A1 n1 zs) (hz : ∀ z ∈ zs, -9223372036854775808 ≤ z ∧ z ≤ 9223372036854775807) (h2 : Ks w nowhere A2 n2 ks) (hn1 : n1 ≤ 140737488355328) (htab : Tab w) :
    Calls Tryd.prog 7 #[.slice A0 n0 c0, .slice A1 n1 c1, .slice A2 n2 c2] w fun r w' => r = .returned (.bool true) ∧ Turn nowhere w w' := by
  have HL := Lib.hid h0
  have HLL := Lib.hid h0.1
  have HK1 := Lib.hid h1
  have HZ := Lib.hid hz
  have HK2 := Lib.hid h2
  have HTAB := Lib.hid htab
  have y0 := h0.2.1
  have y1 := hn1
  clear h0 h1 h2 hz htab hn1
  go_enter Tryd.func7, Tryd.ntmps7
  go_upto_region 0 with fail
  refine wp_region_lit ?_
  refine wpList_run (v := .bool false) (wanted_none rfl) (gx_assign rfl rfl) ?_
  simp only [zz]
  go_upto_region 1 with fail
  refine wp_region_lit ?_
  refine wpList_op rfl fun K9 HK9 => ?_
  go_wp2_with fail
  refine (shown_walk HTAB.out).mono ?_
  rintro e w1 ⟨rfl, ht⟩
  refine HK9.out _ _ ?_
  clear HK9
  try simp only [zz]
  have HT1 := Lib.hid ht
  have HTAB1 := Lib.hid (tab_still HTAB.out ht)
  clear ht
  refine wpList_run (v := .bool true) (wanted_none rfl) (gx_assign rfl rfl) ?_
  simp only [zz]
  go_upto_region 2 with fail
  refine wp_region_lit ?_
  refine wpList_op rfl fun K9 HK9 => ?_
  go_wp2_with fail
  refine (ground_st 322 (by decide) (by decide) HTAB1.out).mono ?_
  rintro e w2 ⟨ht, p, xg, rfl, hst⟩
  refine HK9.out _ _ ?_
  clear HK9
  try simp only [zz]
  have HT2 := Lib.hid (HT1.out.trans ht fun _ _ e => e)
  have HST := Lib.hid hst
  clear ht hst HTAB1
  refine wpList_run (v := .tuple #[.pointer (some ⟨p, 0, none⟩), .pointer (some ⟨xg, 0, none⟩)]) (wanted_none rfl) (exec_move rfl rfl) ?_
  simp only [zz]
  refine wpList_run (v := .pointer (some ⟨p, 0, none⟩)) (wanted_none rfl) (ix_extract rfl rfl rfl) ?_
  simp only [zz]
  refine wpList_run (v := .pointer (some ⟨xg, 0, none⟩)) (wanted_none rfl) (ix_extract rfl rfl rfl) ?_
  simp only [zz]
  refine wpList_run (v := .pointer (some ⟨p, 0, none⟩)) (wanted_none rfl) (gx_assign rfl rfl) ?_
  simp only [zz]
  refine wpList_run (v := .pointer (some ⟨xg, 0, none⟩)) (wanted_none rfl) (gx_assign rfl rfl) ?_
  simp only [zz]
  go_upto_region 3 with fail
  refine wp_region_lit ?_
  refine wpList_run (v := .bool true) (wanted_none rfl) (exec_move rfl rfl) ?_
  simp only [zz]
  refine wpList_run (v := .bool false) (wanted_none rfl) (ix_not (b := true) rfl rfl) ?_
  simp only [zz]
  refine wpList_run (v := .bool false) (wanted_none rfl) (exec_move rfl rfl) ?_
  simp only [zz]
  refine wpList_run (v := .pointer (some ⟨xg, 0, none⟩)) rfl (exec_move rfl rfl) ?_
  simp only [zz]
  refine wpList_run (v := .bool false) rfl (ptr_nilW rfl rfl rfl rfl) ?_
  simp only [zz]
  refine wpList_run (v := .bool false) (wanted_none rfl) (ix_pickF rfl rfl rfl) ?_
  simp only [zz]
  go_upto_region 5 with fail
  refine wp_region_lit ?_
  refine wpList_run (v := .agg #[.int .i64 0, .slice none 0 0]) (wanted_none rfl) (gx_build0 rfl (build_bk0 _)) ?_
  simp only [zz]
  refine wpList_run (v := .pointer (some ⟨w2.heap.size, 0, none⟩)) (w' := w2.alloc (.cells #[.int .i64 0, .slice none 0 0] 32)) (wanted_none rfl) (gx_box rfl rfl (box_bk 0 none 0 0 w2)) ?_
  simp only [zz]
  refine wpList_run (v := .pointer (some ⟨w2.heap.size, 0, none⟩)) (wanted_none rfl) (gx_assign rfl rfl) ?_
  simp only [zz]
  have hbn := Blk.new w2 32 #[.int .i64 0, .slice none 0 0]
  have htb := (Turn.refl nowhere w2).alloc (.cells #[.int .i64 0, .slice none 0 0] 32)
  obtain ⟨b0, hb0⟩ : ∃ z, z = w2.heap.size := ⟨_, rfl⟩
  have hst := HST.out (w2.alloc (.cells #[.int .i64 0, .slice none 0 0] 32)) b0 htb (by omega) (by rw [hb0]; exact hbn)
  rw [← hb0]
  generalize w2.alloc (.cells #[.int .i64 0, .slice none 0 0] 32) = w3 at *
  have HT3 := Lib.hid (HT2.out.trans htb fun _ _ e => e)
  obtain ⟨m, hm⟩ : ∃ m, m = min n0 6 := ⟨_, rfl⟩
  have ym : m ≤ 6 ∧ m ≤ n0 ∧ (m = n0 ∨ m = 6) := by omega
  clear hm
  have HS3 := Lib.hid (show St w w3 p xg b0 5 322 0 0 [] [] (fun z => 0 < m → z < 0) from by
    obtain ⟨F, s, K, d, v, vP, vH, gs, Z, g1, g2, g3, g4, g5, g6, g7, g8, g9, g10, g11⟩ := hst
    exact ⟨F, s, K, d, v, vP, vH, gs, Z, g1, g2, fun _ => g3, g4, g5, g6, g7, g8, fun k hk => Nat.le_trans HT1.out.size (g9 k hk), g10, g11⟩)
  clear hbn htb hst hb0 HST HT2 HT1
  go_upto_region 6 with fail
  refine wp_region_lit ?_
  refine wpList_run (v := .int .i64 0) (wanted_none rfl) (gx_assign rfl rfl) ?_
  simp only [zz]
  go_wp2_with fail
  go_loopg [10, 11] m (fun gk bv iv wr => ∃ (j b : Nat) (G : List Wl.Rec), bv = .pointer (some ⟨b, 0, none⟩) ∧ iv = .int .i64 (j : Int) ∧ j + gk = m ∧ Turn nowhere w wr ∧ St w wr p xg b 5 322 0 j G G (fun z => j < m → z < 0) ∧ G.length ≤ j)
  case atStart => exact ⟨0, b0, [], rfl, rfl, by omega, HT3.out, HS3.out, Nat.le_refl _⟩
  clear HT3 HS3
  obtain ⟨j, b, G, rfl, rfl, hgk, htr, hst, hgl⟩ := hrel
  have HGK := Lib.hid hgk
  have HTR := Lib.hid htr
  have HST := Lib.hid hst
  have HGL := Lib.hid hgl
  have yj : j ≤ m := by omega
  clear hgk htr hst hgl
  by_cases hlt : j < m
  · go_upto_region 7 with fail
    refine wp_region_lit ?_
    refine wpList_run (v := .int .i64 (j : Int)) (wanted_none rfl) (exec_move rfl rfl) ?_
    simp only [zz]
    refine wpList_run (v := .slice A0 n0 c0) (wanted_none rfl) (exec_move rfl rfl) ?_
    simp only [zz]
    refine wpList_run (v := .int .i64 (n0 : Int)) (wanted_none rfl) (gx_len rfl rfl Tryd.underlying33) ?_
    simp only [zz]
    refine wpList_run (v := .bool true) (wanted_none rfl) (ix_lss rfl rfl rfl (decide_eq_true (by omega))) ?_
    simp only [zz]
    refine wpList_run (v := .bool true) (wanted_none rfl) (exec_move rfl rfl) ?_
    simp only [zz]
    refine wpList_run (v := .int .i64 (j : Int)) rfl (exec_move rfl rfl) ?_
    simp only [zz]
    refine wpList_run (v := .bool true) rfl (ix_lss rfl rfl rfl (decide_eq_true (by omega))) ?_
    simp only [zz]
    refine wpList_run (v := .bool true) (wanted_none rfl) (ix_pickT rfl rfl rfl) ?_
    simp only [zz]
    obtain ⟨x, hx⟩ : ∃ x, l0[j]? = some x := ⟨l0[j]'(by rw [HLL.out]; omega), List.getElem?_eq_getElem (by rw [HLL.out]; omega)⟩
    obtain ⟨g1, o1, a1, m1, q1, rfl, hc1, hb1, hn1, hm1⟩ := ls_at (HL.out.still HTR.out) hx
    obtain ⟨g1', o1', a1', m1', q1', e1', hc1', hb1', _, _⟩ := ls_at HL.out hx
    injection e1' with e1'
    injection e1' with e2' e3'
    subst e2' e3'
    obtain ⟨Y, hY, hYs⟩ := HST.out.group
    have HY := Lib.hid hY
    have HYS := Lib.hid hYs
    have hcc := HTR.out.cell (p := ⟨g1, o1 + j * 1, none⟩) (World.block_lt_of_cell? _ _ hc1') (fun e => e)
    rw [hc1, hc1'] at hcc
    injection hcc with hcc
    injection hcc with hc2 hc3 hc4
    subst hc2 hc3 hc4
    have HC1 := Lib.hid hc1
    have HTX := Lib.hid (show TxZ (wr.alloc (.cells #[.slice a1 m1 q1] 38)) (fun k => (k < (wr.alloc (.cells #[.slice a1 m1 q1] 38)).heap.size ∧ Y k) ∧ (Value.slice (some ⟨wr.heap.size, 0, none⟩) 1 1).ownBlock ≠ some k) (.slice a1 m1 q1) x from by
      have hz0 := HTR.out.size
      refine ⟨a1, m1, q1, rfl, (hb1.still ((Turn.refl nowhere wr).alloc _)), hn1, hm1, fun b9 off s e hp => ?_⟩
      obtain ⟨b8, o8, e8, h8⟩ := hb1'.2.2 hp
      rw [e] at e8
      injection e8 with e8
      injection e8 with e8
      have h7 := World.block_lt_of_cell? _ _ (h8 0 hp)
      have h7 : b8 < w.heap.size := h7
      have h6 := World.size_alloc wr (.cells #[.slice a1 m1 q1] 38)
      rw [e8]
      exact ⟨⟨by omega, hY b8 (.inr h7)⟩, fun e => by
        have e := Option.some.inj (show some wr.heap.size = some b8 from e)
        omega⟩)
    clear hx hc1 hb1 hn1 hm1 hc1' hb1' hY hYs
    go_upto_region 9 with fail
    refine wp_region_lit ?_
    refine wpList_run (v := .slice (some ⟨g1, o1, none⟩) n0 c0) (wanted_none rfl) (exec_move rfl rfl) ?_
    simp only [zz]
    refine wpList_run (v := .int .i64 (j : Int)) (wanted_none rfl) (exec_move rfl rfl) ?_
    simp only [zz]
    refine wpList_run (v := .pointer (some ⟨g1, o1 + j * 1, none⟩)) (wanted_none rfl) (gx_iaddr (i := j) (sz := 1) rfl rfl rfl Tryd.underlying33 size_T8 (by omega) rfl) ?_
    simp only [zz]
    refine wpList_run (v := .slice a1 m1 q1) (wanted_none rfl) (exec_load1 rfl rfl (by kernel_rfl) HC1.out) ?_
    simp only [zz]
    refine wpList_run (v := .slice (some ⟨wr.heap.size, 0, none⟩) 1 1) (w' := wr.alloc (.cells #[.slice a1 m1 q1] 38)) (wanted_none rfl) (exec_buildSlice1 rfl rfl (build_one elmT8 (one1 (.slice a1 m1 q1)) rfl (by decide) _ rfl _)) ?_
    simp only [zz]
    refine wpList_run (v := .slice (some ⟨wr.heap.size, 0, none⟩) 1 1) (wanted_none rfl) (gx_assign rfl rfl) ?_
    simp only [zz]
    have hgw : Grow (wr.alloc (.cells #[.slice a1 m1 q1] 38)) wr.heap.size Y (.slice (some ⟨wr.heap.size, 0, none⟩) 1 1) [x] := ⟨[.slice a1 m1 q1], ⟨Fit.one rfl fun u hu => by
      obtain rfl : u = .slice a1 m1 q1 := by simpa [one1] using hu
      rfl, rfl, .inr ⟨wr.heap.size, 1, #[.slice a1 m1 q1], rfl, Nat.le_refl _, heap_alloc_new wr _, Nat.le_refl 1, by unfold maxLen; omega, rfl, rfl⟩⟩, rfl, fun i u y hu hy => by
      have hi := (List.getElem?_eq_some_iff.1 hu).1
      have hi : i = 0 := by simpa using hi
      subst hi
      obtain rfl : Value.slice a1 m1 q1 = u := by simpa using hu
      obtain rfl : x = y := by simpa using hy
      exact HTX.out⟩
    have hta := (Turn.refl nowhere wr).alloc (.cells #[.slice a1 m1 q1] 38)
    obtain ⟨gv, hgv⟩ : ∃ z, z = Value.slice (some ⟨wr.heap.size, 0, none⟩) 1 1 := ⟨_, rfl⟩
    rw [← hgv] at hgw ⊢
    clear hgv
    generalize wr.alloc (.cells #[.slice a1 m1 q1] 38) = w4 at *
    have HGW := Lib.hid hgw
    have HTA := Lib.hid hta
    clear hgw hta HTX HC1
    obtain ⟨o3, ho3⟩ : ∃ z, z = o1 + j * 1 := ⟨_, rfl⟩
    rw [← ho3]
    clear ho3
    go_upto_region 10 with fail
    refine wp_region_lit ?_
    refine wpList_run (v := .int .i64 0) (wanted_none rfl) (gx_assign rfl rfl) ?_
    simp only [zz]
    have HT4 := Lib.hid (HTR.out.trans HTA.out fun _ _ e => e)
    go_upto_region 11 with fail
    refine wp_region_lit ?_
    refine wpList_run (v := .int .i64 (j : Int)) (wanted_none rfl) (exec_move rfl rfl) ?_
    simp only [zz]
    refine wpList_run (v := .slice A1 n1 c1) (wanted_none rfl) (exec_move rfl rfl) ?_
    simp only [zz]
    refine wpList_run (v := .int .i64 (n1 : Int)) (wanted_none rfl) (gx_len rfl rfl Tryd.underlying34) ?_
    simp only [zz]
    refine wpList_run (v := .bool (decide ((j : Int) < (n1 : Int)))) (wanted_none rfl) (ix_lss rfl rfl rfl rfl) ?_
    simp only [zz]
    go_upto_if 54 with fail
    go_cut [13] from 51 to 59 (fun kv wx => ∃ q : Nat, kv = .int .i64 (q : Int) ∧ q < 300 ∧ w4 = wx)
    case first =>
      by_cases h9 : (j : Int) < (n1 : Int)
      · rw [decide_eq_true h9]
        obtain ⟨g2, o2, rfl, _, _, hcells⟩ := HK1.out.2.2 (by omega)
        obtain ⟨cz, hcz⟩ : ∃ z, z = zs.getD j 0 := ⟨_, rfl⟩
        have hcell := hcells j (by omega)
        rw [← hcz] at hcell
        have HCE := Lib.hid (show w4.cell? ⟨g2, o2 + j * 1, none⟩ = some (.int .i64 cz) from by rw [Nat.mul_one, HT4.out.cell (World.block_lt_of_cell? _ _ hcell) (fun e => e)]; exact hcell)
        have yc : -9223372036854775808 ≤ cz ∧ cz ≤ 9223372036854775807 := by
          rw [hcz, List.getD_eq_getElem?_getD, List.getElem?_eq_getElem (by rw [HK1.out.1]; omega)]
          exact HZ.out _ (List.getElem_mem _)
        have hai := among_in (c := cz) (n := 300) (by omega)
        obtain ⟨q9, hq9⟩ : ∃ q9 : Nat, amongI cz 300 = (q9 : Int) := ⟨(amongI cz 300).toNat, by omega⟩
        have HQ9 := Lib.hid hq9
        have y9 : q9 < 300 := by omega
        clear hcz hcell hcells hai hq9
        go_upto_region 12 with fail
        refine wp_region_lit ?_
        refine wpList_run (v := .slice (some ⟨g2, o2, none⟩) n1 c1) (wanted_none rfl) (exec_move rfl rfl) ?_
        simp only [zz]
        refine wpList_run (v := .int .i64 (j : Int)) (wanted_none rfl) (exec_move rfl rfl) ?_
        simp only [zz]
        refine wpList_run (v := .pointer (some ⟨g2, o2 + j * 1, none⟩)) (wanted_none rfl) (gx_iaddr (i := j) (sz := 1) rfl rfl rfl Tryd.underlying34 size_intF (by omega) rfl) ?_
        simp only [zz]
        refine wpList_run (v := .int .i64 cz) (wanted_none rfl) (exec_load1 rfl rfl (by kernel_rfl) HCE.out) ?_
        simp only [zz]
        refine wpList_op rfl fun K9 HK9 => ?_
        go_wp2_with fail
        refine (among_walk cz 300 yc (by omega)).mono ?_
        rintro e w9 ⟨rfl, hw⟩
        refine HK9.out _ _ ?_
        clear HK9
        try simp only [zz]
        obtain rfl := hw.symm
        rw [HQ9.out]
        refine wpList_run (v := .int .i64 (q9 : Int)) (wanted_none rfl) (gx_assign rfl rfl) ?_
        simp only [zz]
        go_wp2_with fail
        go_meet
        exact ⟨q9, rfl, y9, rfl⟩
      · rw [decide_eq_false h9]
        go_wp2_with fail
        go_meet
        exact ⟨0, rfl, by decide, rfl⟩
    obtain ⟨at9, rfl, yat, hw⟩ := hcut
    subst hw
    go_upto_region 13 with fail
    refine wp_region_lit ?_
    refine wpList_run (v := .int .i64 0) (wanted_none rfl) (gx_assign rfl rfl) ?_
    simp only [zz]
    obtain ⟨go, hgo⟩ : ∃ z, z = gk := ⟨_, rfl⟩
    rw [← hgo] at HGK
    have HGO := Lib.hid hgo
    clear hgo
    obtain ⟨wo, hwo⟩ : ∃ z, z = wr := ⟨_, rfl⟩
    rw [← hwo] at HTR HST HGW HTA HYS HY
    clear hwo
    go_wp2_with fail
    go_loopg [12, 14] 12 (fun gk ov iv wr => ∃ (k : Nat) (txs : Wl.Rec), iv = .int .i64 (k : Int) ∧ k + gk = 12 ∧ txs.length = k + 1 ∧ Grow wr wo.heap.size Y ov txs ∧ Turn nowhere wo wr)
    case atStart => exact ⟨0, [x], rfl, rfl, rfl, HGW.out, HTA.out⟩
    clear HGW HTA HT4
    obtain ⟨k, txs, rfl, hgk, htl, hgw, hta⟩ := hrel
    obtain ⟨A5, c5, e5⟩ := hgw.form
    rw [htl] at e5
    subst e5
    have HGK2 := Lib.hid hgk
    have HTL := Lib.hid htl
    have HGW := Lib.hid hgw
    have HTA := Lib.hid hta
    have yk : k ≤ 12 := by omega
    clear hgk htl hgw hta
    by_cases hlk : k < 12
    · have HLK := Lib.hid hlk
      have y5 : (k : Int) < 12 := by omega
      clear hlk
      go_upto_region 14 with fail
      refine wp_region_lit ?_
      refine wpList_run (v := .int .i64 (k : Int)) (wanted_none rfl) (exec_move rfl rfl) ?_
      simp only [zz]
      refine wpList_run (v := .bool true) (wanted_none rfl) (ix_lss rfl rfl rfl (decide_eq_true y5)) ?_
      simp only [zz]
      go_upto_region 16 with fail
      refine wp_region_lit ?_
      refine wpList_run (v := .pointer (some ⟨p, 0, none⟩)) (wanted_none rfl) (exec_move rfl rfl) ?_
      simp only [zz]
      refine wpList_run (v := .int .i64 (at9 : Int)) (wanted_none rfl) (exec_move rfl rfl) ?_
      simp only [zz]
      refine wpList_run (v := .int .i64 (k : Int)) (wanted_none rfl) (exec_move rfl rfl) ?_
      simp only [zz]
      refine wpList_run (v := .int .i64 ((at9 + k : Nat) : Int)) (wanted_none rfl) (ix_add rfl rfl rfl (by omega) (by omega)) ?_
      simp only [zz]
      refine wpList_op rfl fun K9 HK9 => ?_
      go_wp2_with fail
      refine ((HST.out.still HTA.out).read (at9 + k) (by omega)).mono ?_
      rintro e w6 ⟨ht, R, t9, rfl, hR, hbs⟩
      refine HK9.out _ _ ?_
      clear HK9
      try simp only [zz]
      have HTA6 := Lib.hid (HTA.out.trans ht fun _ _ e => e)
      have hgw6 := HGW.out.still ht
      have htx6 : TxZ w6 (fun z => (z < w6.heap.size ∧ Y z) ∧ (Value.slice A5 (k + 1) c5).ownBlock ≠ some z) (.slice (some ⟨R, 0, none⟩) 64 64) t9 := by
        refine ⟨_, _, _, rfl, hbs, (fun e => by cases e), by decide, fun b9 off s e hp => ?_⟩
        injection e with e
        injection e with e
        obtain ⟨b8, o8, e8, h8⟩ := hbs.2.2 hp
        injection e8 with e8
        injection e8 with e8
        have h7 := World.block_lt_of_cell? _ _ (h8 0 hp)
        have h7 : b8 < w6.heap.size := h7
        have hz1 := HTA.out.size
        refine ⟨⟨by omega, HY.out b9 (.inl (by omega))⟩, fun e9 => ?_⟩
        obtain ⟨vs, g1, _⟩ := HGW.out
        have := (g1.lt e9).2
        omega
      obtain ⟨A7, c7, w7, hrun, hg7, ht7⟩ := grow_next (W0 := wo) (ty := 33) hgw6 HTA6.out (by have := HTL.out; omega) htx6
      rw [HTL.out] at hrun hg7
      have HRUN := Lib.hid hrun
      have HGW7 := Lib.hid hg7
      have HTA7 := Lib.hid ht7
      have HTL7 := Lib.hid (show (txs ++ [t9]).length = k + 1 + 1 from by rw [List.length_append, HTL.out]; rfl)
      clear ht hR hbs hgw6 htx6 hrun hg7 ht7
      refine wpList_run (v := .tuple #[.slice (some ⟨R, 0, none⟩) 64 64, .int .i64 0]) (wanted_none rfl) (exec_move rfl rfl) ?_
      simp only [zz]
      refine wpList_run (v := .slice (some ⟨R, 0, none⟩) 64 64) (wanted_none rfl) (ix_extract rfl rfl rfl) ?_
      simp only [zz]
      refine wpList_run (v := .int .i64 0) (wanted_none rfl) (ix_extract rfl rfl rfl) ?_
      simp only [zz]
      refine wpList_run (v := .slice (some ⟨R, 0, none⟩) 64 64) (wanted_none rfl) (gx_assign rfl rfl) ?_
      simp only [zz]
      refine wpList_run (v := .int .i64 0) (wanted_none rfl) (gx_assign rfl rfl) ?_
      simp only [zz]
      go_upto_region 17 with fail
      refine wp_region_lit ?_
      refine wpList_run (v := .int .i64 0) (wanted_none rfl) (exec_move rfl rfl) ?_
      simp only [zz]
      refine wpList_run (v := .bool false) (wanted_none rfl) (ix_neq rfl rfl rfl (by decide)) ?_
      simp only [zz]
      go_upto_region 19 with fail
      refine wp_region_lit ?_
      refine wpList_run (v := .slice A5 (k + 1) c5) (wanted_none rfl) (exec_move rfl rfl) ?_
      simp only [zz]
      refine wpList_run (v := .slice (some ⟨R, 0, none⟩) 64 64) (wanted_none rfl) (exec_move rfl rfl) ?_
      simp only [zz]
      refine wpList_run (v := .slice (some ⟨w6.heap.size, 0, none⟩) 1 1) (w' := w6.alloc (.cells #[.slice (some ⟨R, 0, none⟩) 64 64] 38)) (wanted_none rfl) (exec_buildSlice1 rfl rfl (build_one elmT8 (one1 (.slice (some ⟨R, 0, none⟩) 64 64)) rfl (by decide) _ rfl _)) ?_
      simp only [zz]
      refine wpList_run (v := .slice A7 (k + 1 + 1) c7) (w' := w7) (wanted_none rfl) (exec_append rfl rfl rfl HRUN.out) ?_
      simp only [zz]
      refine wpList_run (v := .slice A7 (k + 1 + 1) c7) (wanted_none rfl) (gx_assign rfl rfl) ?_
      simp only [zz]
      go_upto_region 15 with fail
      refine wp_region_lit ?_
      refine wpList_run (v := .int .i64 (k : Int)) (wanted_none rfl) (exec_move rfl rfl) ?_
      simp only [zz]
      refine wpList_run (v := .int .i64 ((k + 1 : Nat) : Int)) (wanted_none rfl) (ix_add rfl rfl rfl (by omega) (by omega)) ?_
      simp only [zz]
      refine wpList_run (v := .int .i64 ((k + 1 : Nat) : Int)) (wanted_none rfl) (gx_assign rfl rfl) ?_
      simp only [zz]
      go_wp2_with fail
      go_roundg (12 - (k + 1))
      case measure => have := HGK2.out; have := HLK.out; omega
      case rel => exact ⟨k + 1, txs ++ [t9], rfl, by have := HLK.out; omega, HTL7.out, HGW7.out, HTA7.out⟩
    · obtain rfl : k = 12 := by omega
      have HSG := Lib.hid (HYS.out wr (.slice A5 (12 + 1) c5) txs HTA.out (HGW.out.lsz (fun z hz => HY.out z (.inl hz)) (by rw [HTL.out]; decide)))
      have HT6 := Lib.hid (HTR.out.trans HTA.out fun _ _ e => e)
      clear hlk HGW HTA HYS HY HST HTR
      go_upto_region 14 with fail
      refine wp_region_lit ?_
      refine wpList_run (v := .int .i64 ((12 : Nat) : Int)) (wanted_none rfl) (exec_move rfl rfl) ?_
      simp only [zz]
      refine wpList_run (v := .bool false) (wanted_none rfl) (ix_lss rfl rfl rfl (by decide)) ?_
      simp only [zz]
      obtain ⟨A6, q6, e6, hls⟩ := HSG.out.ls
      rw [HTL.out] at e6 hls
      injection e6 with e7 _ e8
      subst e7 e8
      have HLS := Lib.hid hls
      clear hls
      obtain ⟨n13, hn13⟩ : ∃ z, z = 12 + 1 := ⟨_, rfl⟩
      rw [← hn13] at HSG HLS HTL ⊢
      clear hn13
      go_upto_region 20 with fail
      refine wp_region_lit ?_
      refine wpList_run (v := .slice A5 n13 c5) (wanted_none rfl) (exec_move rfl rfl) ?_
      simp only [zz]
      refine wpList_op rfl fun K9 HK9 => ?_
      go_wp2_with fail
      refine (long_walk (c := c5) HLS.out).mono ?_
      rintro e wr ⟨rfl, rfl⟩
      refine HK9.out _ _ ?_
      clear HK9
      try simp only [zz]
      by_cases hlo : Wl.long txs
      · rw [decide_eq_true hlo]
        go_upto_region 21 with fail
        refine wp_region_lit ?_
        refine wpList_run (v := .bool true) (wanted_none rfl) (gx_assign rfl rfl) ?_
        simp only [zz]
        go_wp2_with fail
        go_ret
        exact ⟨rfl, HT6.out⟩
      · rw [decide_eq_false hlo]
        have HLO := Lib.hid hlo
        clear hlo
        have HFU := Lib.hid (HSG.out.imp (ψ := fun z => z < 0) fun z h => h (by omega))
        clear HSG
        by_cases hA : (j : Int) = (n0 : Int) - 1
        · as_aux_lemma =>
            go_upto_region 22 with fail
            refine wp_region_lit ?_
            refine wpList_run (v := .int .i64 (j : Int)) (wanted_none rfl) (exec_move rfl rfl) ?_
            simp only [zz]
            refine wpList_run (v := .slice (some ⟨g1, o1, none⟩) n0 c0) (wanted_none rfl) (exec_move rfl rfl) ?_
            simp only [zz]
            refine wpList_run (v := .int .i64 (n0 : Int)) (wanted_none rfl) (gx_len rfl rfl Tryd.underlying33) ?_
            simp only [zz]
            refine wpList_run (v := .int .i64 ((n0 : Int) - 1)) (wanted_none rfl) (ix_sub rfl rfl rfl rfl (by omega)) ?_
            simp only [zz]
            refine wpList_run (v := .bool true) (wanted_none rfl) (ix_eql rfl rfl rfl (decide_eq_true hA)) ?_
            simp only [zz]
            refine wpList_run (v := .bool true) (wanted_none rfl) (exec_move rfl rfl) ?_
            simp only [zz]
            refine wpList_skip (by go_simp) ?_
            simp only [zz]
            refine wpList_skip (by go_simp) ?_
            simp only [zz]
            refine wpList_run (v := .bool true) (wanted_none rfl) (ix_pickT rfl rfl rfl) ?_
            simp only [zz]
            have HAA := Lib.hid hA
            clear hA
            go_upto_region 23 with fail
            refine wp_region_lit ?_
            refine wpList_run (v := .pointer (some ⟨p, 0, none⟩)) (wanted_none rfl) (exec_move rfl rfl) ?_
            simp only [zz]
            refine wpList_run (v := .int .i64 (at9 : Int)) (wanted_none rfl) (exec_move rfl rfl) ?_
            simp only [zz]
            have hai := among_in (c := (at9 : Int)) (n := 20) (by omega)
            have HAI := Lib.hid hai
            clear hai
            obtain ⟨am, ham⟩ : ∃ z, z = amongI (at9 : Int) 20 := ⟨_, rfl⟩
            have HAM := Lib.hid ham
            rw [← ham] at HAI
            have yam := HAI.out
            clear ham
            refine wpList_op rfl fun K9 HK9 => ?_
            go_wp2_with fail
            refine (among_walk (at9 : Int) 20 (by omega) (by omega)).mono ?_
            rintro e wr ⟨rfl, rfl⟩
            refine HK9.out _ _ ?_
            clear HK9
            try simp only [zz]
            rw [← HAM.out]
            refine wpList_op rfl fun K9 HK9 => ?_
            go_wp2_with fail
            refine (HFU.out.fuse (ψ := fun z => j + 1 < m → z < 0) HT6.out am (by omega) (fun h => absurd h (by have := HAA.out; omega))).mono ?_
            rintro e w7 ⟨rfl, ht, hs⟩
            refine HK9.out _ _ ?_
            clear HK9
            try simp only [zz]
            have HT7 := Lib.hid ht
            have HS7 := Lib.hid hs
            clear ht hs
            go_upto_region 24 with fail
            refine wp_region_lit ?_
            refine wpList_run (v := .pointer (some ⟨xg, 0, none⟩)) (wanted_none rfl) (exec_move rfl rfl) ?_
            simp only [zz]
            refine wpList_run (v := .slice A5 n13 c5) (wanted_none rfl) (exec_move rfl rfl) ?_
            simp only [zz]
            refine wpList_op (wanted_none rfl) fun K9 HK9 => ?_
            go_wp2_with fail
            refine (HS7.out.append HT7.out (by omega)).mono ?_
            rintro e w8 ⟨ht, hcase⟩
            have HT8 := Lib.hid ht
            clear ht
            rcases hcase with ⟨rfl, hs8⟩ | ⟨_, hbad⟩ | rfl | ⟨rfl, hs8⟩
            rotate_left
            · exact absurd hbad HLO.out
            · refine HK9.out _ _ ?_
              clear HK9
              try simp only [zz]
              refine wpList_run (v := .tuple #[.int .i64 0, .int .i64 3]) (wanted_none rfl) (exec_move rfl rfl) ?_
              simp only [zz]
              refine wpList_run (v := .int .i64 0) (wanted_none rfl) (ix_extract rfl rfl rfl) ?_
              simp only [zz]
              refine wpList_run (v := .int .i64 3) (wanted_none rfl) (ix_extract rfl rfl rfl) ?_
              simp only [zz]
              refine wpList_run (v := .int .i64 0) (wanted_none rfl) (gx_assign rfl rfl) ?_
              simp only [zz]
              refine wpList_run (v := .int .i64 3) (wanted_none rfl) (gx_assign rfl rfl) ?_
              simp only [zz]
              go_upto_region 25 with fail
              refine wp_region_lit ?_
              refine wpList_run (v := .int .i64 3) (wanted_none rfl) (exec_move rfl rfl) ?_
              simp only [zz]
              refine wpList_run (v := .bool false) (wanted_none rfl) (ix_eql rfl rfl rfl (by decide)) ?_
              simp only [zz]
              go_upto_region 34 with fail
              refine wp_region_lit ?_
              refine wpList_run (v := .int .i64 3) (wanted_none rfl) (exec_move rfl rfl) ?_
              simp only [zz]
              refine wpList_run (v := .bool true) (wanted_none rfl) (ix_neq rfl rfl rfl (by decide)) ?_
              simp only [zz]
              go_upto_region 35 with fail
              refine wp_region_lit ?_
              refine wpList_run (v := .int .i64 3) (wanted_none rfl) (exec_move rfl rfl) ?_
              simp only [zz]
              refine wpList_run (v := .bool true) (wanted_none rfl) (ix_eql rfl rfl rfl (by decide)) ?_
              simp only [zz]
              refine wpList_run (v := .bool true) (wanted_none rfl) (gx_assign rfl rfl) ?_
              simp only [zz]
              go_wp2_with fail
              go_ret
              exact ⟨rfl, HT8.out⟩
            · have HS8 := Lib.hid hs8
              clear hs8
              refine HK9.out _ _ ?_
              clear HK9
              try simp only [zz]
              refine wpList_run (v := .tuple #[.int .i64 0, .int .i64 2]) (wanted_none rfl) (exec_move rfl rfl) ?_
              simp only [zz]
              refine wpList_run (v := .int .i64 0) (wanted_none rfl) (ix_extract rfl rfl rfl) ?_
              simp only [zz]
              refine wpList_run (v := .int .i64 2) (wanted_none rfl) (ix_extract rfl rfl rfl) ?_
              simp only [zz]
              refine wpList_run (v := .int .i64 0) (wanted_none rfl) (gx_assign rfl rfl) ?_
              simp only [zz]
              refine wpList_run (v := .int .i64 2) (wanted_none rfl) (gx_assign rfl rfl) ?_
              simp only [zz]
              go_upto_region 25 with fail
              refine wp_region_lit ?_
              refine wpList_run (v := .int .i64 2) (wanted_none rfl) (exec_move rfl rfl) ?_
              simp only [zz]
              refine wpList_run (v := .bool true) (wanted_none rfl) (ix_eql rfl rfl rfl (by decide)) ?_
              simp only [zz]
              go_upto_region 26 with fail
              refine wp_region_lit ?_
              refine wpList_run (v := .pointer (some ⟨p, 0, none⟩)) (wanted_none rfl) (exec_move rfl rfl) ?_
              simp only [zz]
              refine wpList_run (v := .slice A2 n2 c2) (wanted_none rfl) (exec_move rfl rfl) ?_
              simp only [zz]
              refine wpList_op (wanted_none rfl) fun K9 HK9 => ?_
              go_wp2_with fail
              refine (HS8.out.boot (c := c2) HT8.out (by omega) HK2.out).mono ?_
              rintro e w9 ⟨rfl, ht, hcl⟩
              have HT9 := Lib.hid ht
              clear ht
              refine HK9.out _ _ ?_
              clear HK9
              try simp only [zz]
              rcases hcl with hcl | hcl
              · have HCL := Lib.hid hcl
                clear hcl
                go_upto_region 27 with fail
                refine wp_region_lit ?_
                refine wpList_run (v := .pointer (some ⟨p, 0, none⟩)) (wanted_none rfl) (exec_move rfl rfl) ?_
                simp only [zz]
                refine wpList_op rfl fun K9 HK9 => ?_
                go_wp2_with fail
                refine (HCL.out.open_ HT9.out (by omega) (by have := HGL.out; omega) (by decide) (by decide)).mono ?_
                rintro e w10 ⟨ht, xn, rfl, hs⟩
                refine HK9.out _ _ ?_
                clear HK9
                try simp only [zz]
                have HT10 := Lib.hid ht
                have HS10 := Lib.hid hs
                clear ht hs
                refine wpList_run (v := .tuple #[.pointer (some ⟨xn, 0, none⟩), .int .i64 0]) (wanted_none rfl) (exec_move rfl rfl) ?_
                simp only [zz]
                refine wpList_run (v := .pointer (some ⟨xn, 0, none⟩)) (wanted_none rfl) (ix_extract rfl rfl rfl) ?_
                simp only [zz]
                refine wpList_run (v := .int .i64 0) (wanted_none rfl) (ix_extract rfl rfl rfl) ?_
                simp only [zz]
                refine wpList_run (v := .pointer (some ⟨xn, 0, none⟩)) (wanted_none rfl) (gx_assign rfl rfl) ?_
                simp only [zz]
                refine wpList_run (v := .int .i64 0) (wanted_none rfl) (gx_assign rfl rfl) ?_
                simp only [zz]
                go_upto_region 28 with fail
                refine wp_region_lit ?_
                refine wpList_run (v := .pointer (some ⟨xn, 0, none⟩)) (wanted_none rfl) (exec_move rfl rfl) ?_
                simp only [zz]
                refine wpList_run (v := .bool false) (wanted_none rfl) (ptr_nilW rfl rfl rfl rfl) ?_
                simp only [zz]
                refine wpList_run (v := .bool false) (wanted_none rfl) (exec_move rfl rfl) ?_
                simp only [zz]
                refine wpList_run (v := .int .i64 0) rfl (exec_move rfl rfl) ?_
                simp only [zz]
                refine wpList_run (v := .bool false) rfl (ix_neq rfl rfl rfl (by decide)) ?_
                simp only [zz]
                refine wpList_run (v := .bool false) (wanted_none rfl) (ix_pickF rfl rfl rfl) ?_
                simp only [zz]
                go_upto_region 30 with fail
                refine wp_region_lit ?_
                refine wpList_run (v := .pointer (some ⟨xn, 0, none⟩)) (wanted_none rfl) (exec_move rfl rfl) ?_
                simp only [zz]
                refine wpList_op rfl fun K9 HK9 => ?_
                go_wp2_with fail
                refine (HS10.out.st.next (by omega)).mono ?_
                rintro e w11 ⟨rfl, ht⟩
                refine HK9.out _ _ ?_
                clear HK9
                try simp only [zz]
                have HS11 := Lib.hid (HS10.out.still ht)
                have HT11 := Lib.hid (HT10.out.trans ht fun _ _ e => e)
                clear ht
                refine wpList_run (v := .pointer (some ⟨b, 0, none⟩)) (wanted_none rfl) (exec_move rfl rfl) ?_
                simp only [zz]
                refine wpList_op rfl fun K9 HK9 => ?_
                go_wp2_with fail
                refine (HS11.out.st.bnext (by omega) (by have := HGL.out; omega)).mono ?_
                rintro e w12 ⟨rfl, ht⟩
                refine HK9.out _ _ ?_
                clear HK9
                try simp only [zz]
                have HS12 := Lib.hid (HS11.out.still ht)
                have HT12 := Lib.hid (HT11.out.trans ht fun _ _ e => e)
                clear ht
                refine wpList_run (v := .bool false) (wanted_none rfl) (ix_gtr rfl rfl rfl (decide_eq_false (by omega))) ?_
                simp only [zz]
                have HS13 := Lib.hid HS12.out.st
                go_upto_region 32 with fail
                refine wp_region_lit ?_
                refine wpList_run (v := .pointer (some ⟨b, 0, none⟩)) (wanted_none rfl) (exec_move rfl rfl) ?_
                simp only [zz]
                refine wpList_run (v := .pointer (some ⟨xn, 0, none⟩)) (wanted_none rfl) (exec_move rfl rfl) ?_
                simp only [zz]
                refine wpList_op rfl fun K9 HK9 => ?_
                go_wp2_with fail
                refine (HS13.out.like (by omega) (by have := HGL.out; omega)).mono ?_
                rintro e w14 ⟨rfl, ht⟩
                refine HK9.out _ _ ?_
                clear HK9
                try simp only [zz]
                try rw [decide_eq_true (rfl : (G) = (G))]
                have HT14 := Lib.hid (HT12.out.trans ht fun _ _ e => e)
                clear ht
                refine wpList_run (v := .bool true) (wanted_none rfl) (gx_assign rfl rfl) ?_
                simp only [zz]
                go_upto_region 33 with fail
                refine wp_region_lit ?_
                refine wpList_run (v := .bool true) (wanted_none rfl) (exec_move rfl rfl) ?_
                simp only [zz]
                refine wpList_run (v := .bool true) (wanted_none rfl) (gx_assign rfl rfl) ?_
                simp only [zz]
                go_wp2_with fail
                go_ret
                exact ⟨rfl, HT14.out⟩
              · have HCL := Lib.hid hcl
                clear hcl
                go_upto_region 27 with fail
                refine wp_region_lit ?_
                refine wpList_run (v := .pointer (some ⟨p, 0, none⟩)) (wanted_none rfl) (exec_move rfl rfl) ?_
                simp only [zz]
                refine wpList_op rfl fun K9 HK9 => ?_
                go_wp2_with fail
                refine (HCL.out.open_ HT9.out (by omega) (by rw [List.length_append]; show 0 + (G.length + 1) ≤ _; have := HGL.out; omega) (by decide) (by decide)).mono ?_
                rintro e w10 ⟨ht, xn, rfl, hs⟩
                refine HK9.out _ _ ?_
                clear HK9
                try simp only [zz]
                have HT10 := Lib.hid ht
                have HS10 := Lib.hid hs
                clear ht hs
                refine wpList_run (v := .tuple #[.pointer (some ⟨xn, 0, none⟩), .int .i64 0]) (wanted_none rfl) (exec_move rfl rfl) ?_
                simp only [zz]
                refine wpList_run (v := .pointer (some ⟨xn, 0, none⟩)) (wanted_none rfl) (ix_extract rfl rfl rfl) ?_
                simp only [zz]
                refine wpList_run (v := .int .i64 0) (wanted_none rfl) (ix_extract rfl rfl rfl) ?_
                simp only [zz]
                refine wpList_run (v := .pointer (some ⟨xn, 0, none⟩)) (wanted_none rfl) (gx_assign rfl rfl) ?_
                simp only [zz]
                refine wpList_run (v := .int .i64 0) (wanted_none rfl) (gx_assign rfl rfl) ?_
                simp only [zz]
                go_upto_region 28 with fail
                refine wp_region_lit ?_
                refine wpList_run (v := .pointer (some ⟨xn, 0, none⟩)) (wanted_none rfl) (exec_move rfl rfl) ?_
                simp only [zz]
                refine wpList_run (v := .bool false) (wanted_none rfl) (ptr_nilW rfl rfl rfl rfl) ?_
                simp only [zz]
                refine wpList_run (v := .bool false) (wanted_none rfl) (exec_move rfl rfl) ?_
                simp only [zz]
                refine wpList_run (v := .int .i64 0) rfl (exec_move rfl rfl) ?_
                simp only [zz]
                refine wpList_run (v := .bool false) rfl (ix_neq rfl rfl rfl (by decide)) ?_
                simp only [zz]
                refine wpList_run (v := .bool false) (wanted_none rfl) (ix_pickF rfl rfl rfl) ?_
                simp only [zz]
                go_upto_region 30 with fail
                refine wp_region_lit ?_
                refine wpList_run (v := .pointer (some ⟨xn, 0, none⟩)) (wanted_none rfl) (exec_move rfl rfl) ?_
                simp only [zz]
                refine wpList_op rfl fun K9 HK9 => ?_
                go_wp2_with fail
                refine (HS10.out.st.next (by omega)).mono ?_
                rintro e w11 ⟨rfl, ht⟩
                refine HK9.out _ _ ?_
                clear HK9
                try simp only [zz]
                have HS11 := Lib.hid (HS10.out.still ht)
                have HT11 := Lib.hid (HT10.out.trans ht fun _ _ e => e)
                clear ht
                refine wpList_run (v := .pointer (some ⟨b, 0, none⟩)) (wanted_none rfl) (exec_move rfl rfl) ?_
                simp only [zz]
                refine wpList_op rfl fun K9 HK9 => ?_
                go_wp2_with fail
                refine (HS11.out.st.bnext (by omega) (by have := HGL.out; omega)).mono ?_
                rintro e w12 ⟨rfl, ht⟩
                refine HK9.out _ _ ?_
                clear HK9
                try simp only [zz]
                have HS12 := Lib.hid (HS11.out.still ht)
                have HT12 := Lib.hid (HT11.out.trans ht fun _ _ e => e)
                clear ht
                have hlen : (G ++ [txs]).length = G.length + 1 := by rw [List.length_append]; rfl
                rw [hlen]
                clear hlen
                refine wpList_run (v := .bool true) (wanted_none rfl) (ix_gtr rfl rfl rfl (decide_eq_true (by omega))) ?_
                simp only [zz]
                obtain ⟨A6, q6, e6, hls⟩ := HS12.out.ls
                rw [HTL.out] at e6 hls
                injection e6 with e7 _ e8
                subst e7 e8
                have HLS2 := Lib.hid hls
                clear hls
                go_upto_region 31 with fail
                refine wp_region_lit ?_
                refine wpList_run (v := .pointer (some ⟨b, 0, none⟩)) (wanted_none rfl) (exec_move rfl rfl) ?_
                simp only [zz]
                refine wpList_run (v := .slice A5 n13 c5) (wanted_none rfl) (exec_move rfl rfl) ?_
                simp only [zz]
                refine wpList_op rfl fun K9 HK9 => ?_
                go_wp2_with fail
                refine (HS12.out.st.with_ (cap := c5) HT12.out HLS2.out (by have := HGL.out; omega)).mono ?_
                rintro e w13 ⟨ht, b4, rfl, hs4⟩
                refine HK9.out _ _ ?_
                clear HK9
                try simp only [zz]
                have HT13 := Lib.hid ht
                have HS13 := Lib.hid hs4
                clear ht hs4
                refine wpList_run (v := .pointer (some ⟨b4, 0, none⟩)) (wanted_none rfl) (gx_assign rfl rfl) ?_
                simp only [zz]
                go_upto_region 32 with fail
                refine wp_region_lit ?_
                refine wpList_run (v := .pointer (some ⟨b4, 0, none⟩)) (wanted_none rfl) (exec_move rfl rfl) ?_
                simp only [zz]
                refine wpList_run (v := .pointer (some ⟨xn, 0, none⟩)) (wanted_none rfl) (exec_move rfl rfl) ?_
                simp only [zz]
                refine wpList_op rfl fun K9 HK9 => ?_
                go_wp2_with fail
                refine (HS13.out.like (by omega) (by rw [List.length_append]; show G.length + 1 ≤ _; have := HGL.out; omega)).mono ?_
                rintro e w14 ⟨rfl, ht⟩
                refine HK9.out _ _ ?_
                clear HK9
                try simp only [zz]
                try rw [decide_eq_true (rfl : (G ++ [txs]) = (G ++ [txs]))]
                have HT14 := Lib.hid (HT13.out.trans ht fun _ _ e => e)
                clear ht
                refine wpList_run (v := .bool true) (wanted_none rfl) (gx_assign rfl rfl) ?_
                simp only [zz]
                go_upto_region 33 with fail
                refine wp_region_lit ?_
                refine wpList_run (v := .bool true) (wanted_none rfl) (exec_move rfl rfl) ?_
                simp only [zz]
                refine wpList_run (v := .bool true) (wanted_none rfl) (gx_assign rfl rfl) ?_
                simp only [zz]
                go_wp2_with fail
                go_ret
                exact ⟨rfl, HT14.out⟩
            · have HS8 := Lib.hid hs8
              clear hs8
              refine HK9.out _ _ ?_
              clear HK9
              try simp only [zz]
              refine wpList_run (v := .tuple #[.int .i64 ((0 + G.length : Nat) : Int), .int .i64 0]) (wanted_none rfl) (exec_move rfl rfl) ?_
              simp only [zz]
              refine wpList_run (v := .int .i64 ((0 + G.length : Nat) : Int)) (wanted_none rfl) (ix_extract rfl rfl rfl) ?_
              simp only [zz]
              refine wpList_run (v := .int .i64 0) (wanted_none rfl) (ix_extract rfl rfl rfl) ?_
              simp only [zz]
              refine wpList_run (v := .int .i64 ((0 + G.length : Nat) : Int)) (wanted_none rfl) (gx_assign rfl rfl) ?_
              simp only [zz]
              refine wpList_run (v := .int .i64 0) (wanted_none rfl) (gx_assign rfl rfl) ?_
              simp only [zz]
              go_upto_region 25 with fail
              refine wp_region_lit ?_
              refine wpList_run (v := .int .i64 0) (wanted_none rfl) (exec_move rfl rfl) ?_
              simp only [zz]
              refine wpList_run (v := .bool false) (wanted_none rfl) (ix_eql rfl rfl rfl (by decide)) ?_
              simp only [zz]
              go_upto_region 34 with fail
              refine wp_region_lit ?_
              refine wpList_run (v := .int .i64 0) (wanted_none rfl) (exec_move rfl rfl) ?_
              simp only [zz]
              refine wpList_run (v := .bool false) (wanted_none rfl) (ix_neq rfl rfl rfl (by decide)) ?_
              simp only [zz]
              obtain ⟨A6, q6, e6, hls⟩ := HS8.out.ls
              rw [HTL.out] at e6 hls
              injection e6 with e7 _ e8
              subst e7 e8
              have HLS2 := Lib.hid hls
              clear hls
              go_upto_region 36 with fail
              refine wp_region_lit ?_
              refine wpList_run (v := .pointer (some ⟨b, 0, none⟩)) (wanted_none rfl) (exec_move rfl rfl) ?_
              simp only [zz]
              refine wpList_run (v := .slice A5 n13 c5) (wanted_none rfl) (exec_move rfl rfl) ?_
              simp only [zz]
              refine wpList_op rfl fun K9 HK9 => ?_
              go_wp2_with fail
              refine (HS8.out.st.with_ (cap := c5) HT8.out HLS2.out (by have := HGL.out; omega)).mono ?_
              rintro e w13 ⟨ht, b4, rfl, hs4⟩
              refine HK9.out _ _ ?_
              clear HK9
              try simp only [zz]
              have HT13 := Lib.hid ht
              have HS13 := Lib.hid hs4
              clear ht hs4
              refine wpList_run (v := .pointer (some ⟨b4, 0, none⟩)) (wanted_none rfl) (gx_assign rfl rfl) ?_
              simp only [zz]
              go_upto_region 8 with fail
              refine wp_region_lit ?_
              refine wpList_run (v := .int .i64 (j : Int)) (wanted_none rfl) (exec_move rfl rfl) ?_
              simp only [zz]
              refine wpList_run (v := .int .i64 ((j + 1 : Nat) : Int)) (wanted_none rfl) (ix_add rfl rfl rfl (by omega) (by omega)) ?_
              simp only [zz]
              refine wpList_run (v := .int .i64 ((j + 1 : Nat) : Int)) (wanted_none rfl) (gx_assign rfl rfl) ?_
              simp only [zz]
              go_wp2_with fail
              go_roundg (go - 1)
              case measure => have := HGK.out; have := HGO.out; omega
              case rel => exact ⟨j + 1, b4, G ++ [txs], rfl, rfl, by have := HGK.out; omega, HT13.out, HS13.out, by rw [List.length_append]; show G.length + 1 ≤ _; have := HGL.out; omega⟩
        · by_cases hB : j = 5
          · as_aux_lemma =>
              go_upto_region 22 with fail
              refine wp_region_lit ?_
              refine wpList_run (v := .int .i64 (j : Int)) (wanted_none rfl) (exec_move rfl rfl) ?_
              simp only [zz]
              refine wpList_run (v := .slice (some ⟨g1, o1, none⟩) n0 c0) (wanted_none rfl) (exec_move rfl rfl) ?_
              simp only [zz]
              refine wpList_run (v := .int .i64 (n0 : Int)) (wanted_none rfl) (gx_len rfl rfl Tryd.underlying33) ?_
              simp only [zz]
              refine wpList_run (v := .int .i64 ((n0 : Int) - 1)) (wanted_none rfl) (ix_sub rfl rfl rfl rfl (by omega)) ?_
              simp only [zz]
              refine wpList_run (v := .bool false) (wanted_none rfl) (ix_eql rfl rfl rfl (decide_eq_false hA)) ?_
              simp only [zz]
              refine wpList_run (v := .bool false) (wanted_none rfl) (exec_move rfl rfl) ?_
              simp only [zz]
              refine wpList_run (v := .int .i64 (j : Int)) rfl (exec_move rfl rfl) ?_
              simp only [zz]
              refine wpList_run (v := .bool true) rfl (ix_eql rfl rfl rfl (decide_eq_true (by omega))) ?_
              simp only [zz]
              refine wpList_run (v := .bool true) (wanted_none rfl) (ix_pickF rfl rfl rfl) ?_
              simp only [zz]
              have HAA := Lib.hid hB
              clear hA hB
              go_upto_region 23 with fail
              refine wp_region_lit ?_
              refine wpList_run (v := .pointer (some ⟨p, 0, none⟩)) (wanted_none rfl) (exec_move rfl rfl) ?_
              simp only [zz]
              refine wpList_run (v := .int .i64 (at9 : Int)) (wanted_none rfl) (exec_move rfl rfl) ?_
              simp only [zz]
              have hai := among_in (c := (at9 : Int)) (n := 20) (by omega)
              have HAI := Lib.hid hai
              clear hai
              obtain ⟨am, ham⟩ : ∃ z, z = amongI (at9 : Int) 20 := ⟨_, rfl⟩
              have HAM := Lib.hid ham
              rw [← ham] at HAI
              have yam := HAI.out
              clear ham
              refine wpList_op rfl fun K9 HK9 => ?_
              go_wp2_with fail
              refine (among_walk (at9 : Int) 20 (by omega) (by omega)).mono ?_
              rintro e wr ⟨rfl, rfl⟩
              refine HK9.out _ _ ?_
              clear HK9
              try simp only [zz]
              rw [← HAM.out]
              refine wpList_op rfl fun K9 HK9 => ?_
              go_wp2_with fail
              refine (HFU.out.fuse (ψ := fun z => j + 1 < m → z < 0) HT6.out am (by omega) (fun h => absurd h (by have := HAA.out; omega))).mono ?_
              rintro e w7 ⟨rfl, ht, hs⟩
              refine HK9.out _ _ ?_
              clear HK9
              try simp only [zz]
              have HT7 := Lib.hid ht
              have HS7 := Lib.hid hs
              clear ht hs
              go_upto_region 24 with fail
              refine wp_region_lit ?_
              refine wpList_run (v := .pointer (some ⟨xg, 0, none⟩)) (wanted_none rfl) (exec_move rfl rfl) ?_
              simp only [zz]
              refine wpList_run (v := .slice A5 n13 c5) (wanted_none rfl) (exec_move rfl rfl) ?_
              simp only [zz]
              refine wpList_op (wanted_none rfl) fun K9 HK9 => ?_
              go_wp2_with fail
              refine (HS7.out.append HT7.out (by omega)).mono ?_
              rintro e w8 ⟨ht, hcase⟩
              have HT8 := Lib.hid ht
              clear ht
              rcases hcase with ⟨rfl, hs8⟩ | ⟨_, hbad⟩ | rfl | ⟨rfl, hs8⟩
              rotate_left
              · exact absurd hbad HLO.out
              · refine HK9.out _ _ ?_
                clear HK9
                try simp only [zz]
                refine wpList_run (v := .tuple #[.int .i64 0, .int .i64 3]) (wanted_none rfl) (exec_move rfl rfl) ?_
                simp only [zz]
                refine wpList_run (v := .int .i64 0) (wanted_none rfl) (ix_extract rfl rfl rfl) ?_
                simp only [zz]
                refine wpList_run (v := .int .i64 3) (wanted_none rfl) (ix_extract rfl rfl rfl) ?_
                simp only [zz]
                refine wpList_run (v := .int .i64 0) (wanted_none rfl) (gx_assign rfl rfl) ?_
                simp only [zz]
                refine wpList_run (v := .int .i64 3) (wanted_none rfl) (gx_assign rfl rfl) ?_
                simp only [zz]
                go_upto_region 25 with fail
                refine wp_region_lit ?_
                refine wpList_run (v := .int .i64 3) (wanted_none rfl) (exec_move rfl rfl) ?_
                simp only [zz]
                refine wpList_run (v := .bool false) (wanted_none rfl) (ix_eql rfl rfl rfl (by decide)) ?_
                simp only [zz]
                go_upto_region 34 with fail
                refine wp_region_lit ?_
                refine wpList_run (v := .int .i64 3) (wanted_none rfl) (exec_move rfl rfl) ?_
                simp only [zz]
                refine wpList_run (v := .bool true) (wanted_none rfl) (ix_neq rfl rfl rfl (by decide)) ?_
                simp only [zz]
                go_upto_region 35 with fail
                refine wp_region_lit ?_
                refine wpList_run (v := .int .i64 3) (wanted_none rfl) (exec_move rfl rfl) ?_
                simp only [zz]
                refine wpList_run (v := .bool true) (wanted_none rfl) (ix_eql rfl rfl rfl (by decide)) ?_
                simp only [zz]
                refine wpList_run (v := .bool true) (wanted_none rfl) (gx_assign rfl rfl) ?_
                simp only [zz]
                go_wp2_with fail
                go_ret
                exact ⟨rfl, HT8.out⟩
              · have HS8 := Lib.hid hs8
                clear hs8
                refine HK9.out _ _ ?_
                clear HK9
                try simp only [zz]
                refine wpList_run (v := .tuple #[.int .i64 0, .int .i64 2]) (wanted_none rfl) (exec_move rfl rfl) ?_
                simp only [zz]
                refine wpList_run (v := .int .i64 0) (wanted_none rfl) (ix_extract rfl rfl rfl) ?_
                simp only [zz]
                refine wpList_run (v := .int .i64 2) (wanted_none rfl) (ix_extract rfl rfl rfl) ?_
                simp only [zz]
                refine wpList_run (v := .int .i64 0) (wanted_none rfl) (gx_assign rfl rfl) ?_
                simp only [zz]
                refine wpList_run (v := .int .i64 2) (wanted_none rfl) (gx_assign rfl rfl) ?_
                simp only [zz]
                go_upto_region 25 with fail
                refine wp_region_lit ?_
                refine wpList_run (v := .int .i64 2) (wanted_none rfl) (exec_move rfl rfl) ?_
                simp only [zz]
                refine wpList_run (v := .bool true) (wanted_none rfl) (ix_eql rfl rfl rfl (by decide)) ?_
                simp only [zz]
                go_upto_region 26 with fail
                refine wp_region_lit ?_
                refine wpList_run (v := .pointer (some ⟨p, 0, none⟩)) (wanted_none rfl) (exec_move rfl rfl) ?_
                simp only [zz]
                refine wpList_run (v := .slice A2 n2 c2) (wanted_none rfl) (exec_move rfl rfl) ?_
                simp only [zz]
                refine wpList_op (wanted_none rfl) fun K9 HK9 => ?_
                go_wp2_with fail
                refine (HS8.out.boot (c := c2) HT8.out (by omega) HK2.out).mono ?_
                rintro e w9 ⟨rfl, ht, hcl⟩
                have HT9 := Lib.hid ht
                clear ht
                refine HK9.out _ _ ?_
                clear HK9
                try simp only [zz]
                rcases hcl with hcl | hcl
                · have HCL := Lib.hid hcl
                  clear hcl
                  go_upto_region 27 with fail
                  refine wp_region_lit ?_
                  refine wpList_run (v := .pointer (some ⟨p, 0, none⟩)) (wanted_none rfl) (exec_move rfl rfl) ?_
                  simp only [zz]
                  refine wpList_op rfl fun K9 HK9 => ?_
                  go_wp2_with fail
                  refine (HCL.out.open_ HT9.out (by omega) (by have := HGL.out; omega) (by decide) (by decide)).mono ?_
                  rintro e w10 ⟨ht, xn, rfl, hs⟩
                  refine HK9.out _ _ ?_
                  clear HK9
                  try simp only [zz]
                  have HT10 := Lib.hid ht
                  have HS10 := Lib.hid hs
                  clear ht hs
                  refine wpList_run (v := .tuple #[.pointer (some ⟨xn, 0, none⟩), .int .i64 0]) (wanted_none rfl) (exec_move rfl rfl) ?_
                  simp only [zz]
                  refine wpList_run (v := .pointer (some ⟨xn, 0, none⟩)) (wanted_none rfl) (ix_extract rfl rfl rfl) ?_
                  simp only [zz]
                  refine wpList_run (v := .int .i64 0) (wanted_none rfl) (ix_extract rfl rfl rfl) ?_
                  simp only [zz]
                  refine wpList_run (v := .pointer (some ⟨xn, 0, none⟩)) (wanted_none rfl) (gx_assign rfl rfl) ?_
                  simp only [zz]
                  refine wpList_run (v := .int .i64 0) (wanted_none rfl) (gx_assign rfl rfl) ?_
                  simp only [zz]
                  go_upto_region 28 with fail
                  refine wp_region_lit ?_
                  refine wpList_run (v := .pointer (some ⟨xn, 0, none⟩)) (wanted_none rfl) (exec_move rfl rfl) ?_
                  simp only [zz]
                  refine wpList_run (v := .bool false) (wanted_none rfl) (ptr_nilW rfl rfl rfl rfl) ?_
                  simp only [zz]
                  refine wpList_run (v := .bool false) (wanted_none rfl) (exec_move rfl rfl) ?_
                  simp only [zz]
                  refine wpList_run (v := .int .i64 0) rfl (exec_move rfl rfl) ?_
                  simp only [zz]
                  refine wpList_run (v := .bool false) rfl (ix_neq rfl rfl rfl (by decide)) ?_
                  simp only [zz]
                  refine wpList_run (v := .bool false) (wanted_none rfl) (ix_pickF rfl rfl rfl) ?_
                  simp only [zz]
                  go_upto_region 30 with fail
                  refine wp_region_lit ?_
                  refine wpList_run (v := .pointer (some ⟨xn, 0, none⟩)) (wanted_none rfl) (exec_move rfl rfl) ?_
                  simp only [zz]
                  refine wpList_op rfl fun K9 HK9 => ?_
                  go_wp2_with fail
                  refine (HS10.out.st.next (by omega)).mono ?_
                  rintro e w11 ⟨rfl, ht⟩
                  refine HK9.out _ _ ?_
                  clear HK9
                  try simp only [zz]
                  have HS11 := Lib.hid (HS10.out.still ht)
                  have HT11 := Lib.hid (HT10.out.trans ht fun _ _ e => e)
                  clear ht
                  refine wpList_run (v := .pointer (some ⟨b, 0, none⟩)) (wanted_none rfl) (exec_move rfl rfl) ?_
                  simp only [zz]
                  refine wpList_op rfl fun K9 HK9 => ?_
                  go_wp2_with fail
                  refine (HS11.out.st.bnext (by omega) (by have := HGL.out; omega)).mono ?_
                  rintro e w12 ⟨rfl, ht⟩
                  refine HK9.out _ _ ?_
                  clear HK9
                  try simp only [zz]
                  have HS12 := Lib.hid (HS11.out.still ht)
                  have HT12 := Lib.hid (HT11.out.trans ht fun _ _ e => e)
                  clear ht
                  refine wpList_run (v := .bool false) (wanted_none rfl) (ix_gtr rfl rfl rfl (decide_eq_false (by omega))) ?_
                  simp only [zz]
                  have HS13 := Lib.hid HS12.out.st
                  go_upto_region 32 with fail
                  refine wp_region_lit ?_
                  refine wpList_run (v := .pointer (some ⟨b, 0, none⟩)) (wanted_none rfl) (exec_move rfl rfl) ?_
                  simp only [zz]
                  refine wpList_run (v := .pointer (some ⟨xn, 0, none⟩)) (wanted_none rfl) (exec_move rfl rfl) ?_
                  simp only [zz]
                  refine wpList_op rfl fun K9 HK9 => ?_
                  go_wp2_with fail
                  refine (HS13.out.like (by omega) (by have := HGL.out; omega)).mono ?_
                  rintro e w14 ⟨rfl, ht⟩
                  refine HK9.out _ _ ?_
                  clear HK9
                  try simp only [zz]
                  try rw [decide_eq_true (rfl : (G) = (G))]
                  have HT14 := Lib.hid (HT12.out.trans ht fun _ _ e => e)
                  clear ht
                  refine wpList_run (v := .bool true) (wanted_none rfl) (gx_assign rfl rfl) ?_
                  simp only [zz]
                  go_upto_region 33 with fail
                  refine wp_region_lit ?_
                  refine wpList_run (v := .bool true) (wanted_none rfl) (exec_move rfl rfl) ?_
                  simp only [zz]
                  refine wpList_run (v := .bool true) (wanted_none rfl) (gx_assign rfl rfl) ?_
                  simp only [zz]
                  go_wp2_with fail
                  go_ret
                  exact ⟨rfl, HT14.out⟩
                · have HCL := Lib.hid hcl
                  clear hcl
                  go_upto_region 27 with fail
                  refine wp_region_lit ?_
                  refine wpList_run (v := .pointer (some ⟨p, 0, none⟩)) (wanted_none rfl) (exec_move rfl rfl) ?_
                  simp only [zz]
                  refine wpList_op rfl fun K9 HK9 => ?_
                  go_wp2_with fail
                  refine (HCL.out.open_ HT9.out (by omega) (by rw [List.length_append]; show 0 + (G.length + 1) ≤ _; have := HGL.out; omega) (by decide) (by decide)).mono ?_
                  rintro e w10 ⟨ht, xn, rfl, hs⟩
                  refine HK9.out _ _ ?_
                  clear HK9
                  try simp only [zz]
                  have HT10 := Lib.hid ht
                  have HS10 := Lib.hid hs
                  clear ht hs
                  refine wpList_run (v := .tuple #[.pointer (some ⟨xn, 0, none⟩), .int .i64 0]) (wanted_none rfl) (exec_move rfl rfl) ?_
                  simp only [zz]
                  refine wpList_run (v := .pointer (some ⟨xn, 0, none⟩)) (wanted_none rfl) (ix_extract rfl rfl rfl) ?_
                  simp only [zz]
                  refine wpList_run (v := .int .i64 0) (wanted_none rfl) (ix_extract rfl rfl rfl) ?_
                  simp only [zz]
                  refine wpList_run (v := .pointer (some ⟨xn, 0, none⟩)) (wanted_none rfl) (gx_assign rfl rfl) ?_
                  simp only [zz]
                  refine wpList_run (v := .int .i64 0) (wanted_none rfl) (gx_assign rfl rfl) ?_
                  simp only [zz]
                  go_upto_region 28 with fail
                  refine wp_region_lit ?_
                  refine wpList_run (v := .pointer (some ⟨xn, 0, none⟩)) (wanted_none rfl) (exec_move rfl rfl) ?_
                  simp only [zz]
                  refine wpList_run (v := .bool false) (wanted_none rfl) (ptr_nilW rfl rfl rfl rfl) ?_
                  simp only [zz]
                  refine wpList_run (v := .bool false) (wanted_none rfl) (exec_move rfl rfl) ?_
                  simp only [zz]
                  refine wpList_run (v := .int .i64 0) rfl (exec_move rfl rfl) ?_
                  simp only [zz]
                  refine wpList_run (v := .bool false) rfl (ix_neq rfl rfl rfl (by decide)) ?_
                  simp only [zz]
                  refine wpList_run (v := .bool false) (wanted_none rfl) (ix_pickF rfl rfl rfl) ?_
                  simp only [zz]
                  go_upto_region 30 with fail
                  refine wp_region_lit ?_
                  refine wpList_run (v := .pointer (some ⟨xn, 0, none⟩)) (wanted_none rfl) (exec_move rfl rfl) ?_
                  simp only [zz]
                  refine wpList_op rfl fun K9 HK9 => ?_
                  go_wp2_with fail
                  refine (HS10.out.st.next (by omega)).mono ?_
                  rintro e w11 ⟨rfl, ht⟩
                  refine HK9.out _ _ ?_
                  clear HK9
                  try simp only [zz]
                  have HS11 := Lib.hid (HS10.out.still ht)
                  have HT11 := Lib.hid (HT10.out.trans ht fun _ _ e => e)
                  clear ht
                  refine wpList_run (v := .pointer (some ⟨b, 0, none⟩)) (wanted_none rfl) (exec_move rfl rfl) ?_
                  simp only [zz]
                  refine wpList_op rfl fun K9 HK9 => ?_
                  go_wp2_with fail
                  refine (HS11.out.st.bnext (by omega) (by have := HGL.out; omega)).mono ?_
                  rintro e w12 ⟨rfl, ht⟩
                  refine HK9.out _ _ ?_
                  clear HK9
                  try simp only [zz]
                  have HS12 := Lib.hid (HS11.out.still ht)
                  have HT12 := Lib.hid (HT11.out.trans ht fun _ _ e => e)
                  clear ht
                  have hlen : (G ++ [txs]).length = G.length + 1 := by rw [List.length_append]; rfl
                  rw [hlen]
                  clear hlen
                  refine wpList_run (v := .bool true) (wanted_none rfl) (ix_gtr rfl rfl rfl (decide_eq_true (by omega))) ?_
                  simp only [zz]
                  obtain ⟨A6, q6, e6, hls⟩ := HS12.out.ls
                  rw [HTL.out] at e6 hls
                  injection e6 with e7 _ e8
                  subst e7 e8
                  have HLS2 := Lib.hid hls
                  clear hls
                  go_upto_region 31 with fail
                  refine wp_region_lit ?_
                  refine wpList_run (v := .pointer (some ⟨b, 0, none⟩)) (wanted_none rfl) (exec_move rfl rfl) ?_
                  simp only [zz]
                  refine wpList_run (v := .slice A5 n13 c5) (wanted_none rfl) (exec_move rfl rfl) ?_
                  simp only [zz]
                  refine wpList_op rfl fun K9 HK9 => ?_
                  go_wp2_with fail
                  refine (HS12.out.st.with_ (cap := c5) HT12.out HLS2.out (by have := HGL.out; omega)).mono ?_
                  rintro e w13 ⟨ht, b4, rfl, hs4⟩
                  refine HK9.out _ _ ?_
                  clear HK9
                  try simp only [zz]
                  have HT13 := Lib.hid ht
                  have HS13 := Lib.hid hs4
                  clear ht hs4
                  refine wpList_run (v := .pointer (some ⟨b4, 0, none⟩)) (wanted_none rfl) (gx_assign rfl rfl) ?_
                  simp only [zz]
                  go_upto_region 32 with fail
                  refine wp_region_lit ?_
                  refine wpList_run (v := .pointer (some ⟨b4, 0, none⟩)) (wanted_none rfl) (exec_move rfl rfl) ?_
                  simp only [zz]
                  refine wpList_run (v := .pointer (some ⟨xn, 0, none⟩)) (wanted_none rfl) (exec_move rfl rfl) ?_
                  simp only [zz]
                  refine wpList_op rfl fun K9 HK9 => ?_
                  go_wp2_with fail
                  refine (HS13.out.like (by omega) (by rw [List.length_append]; show G.length + 1 ≤ _; have := HGL.out; omega)).mono ?_
                  rintro e w14 ⟨rfl, ht⟩
                  refine HK9.out _ _ ?_
                  clear HK9
                  try simp only [zz]
                  try rw [decide_eq_true (rfl : (G ++ [txs]) = (G ++ [txs]))]
                  have HT14 := Lib.hid (HT13.out.trans ht fun _ _ e => e)
                  clear ht
                  refine wpList_run (v := .bool true) (wanted_none rfl) (gx_assign rfl rfl) ?_
                  simp only [zz]
                  go_upto_region 33 with fail
                  refine wp_region_lit ?_
                  refine wpList_run (v := .bool true) (wanted_none rfl) (exec_move rfl rfl) ?_
                  simp only [zz]
                  refine wpList_run (v := .bool true) (wanted_none rfl) (gx_assign rfl rfl) ?_
                  simp only [zz]
                  go_wp2_with fail
                  go_ret
                  exact ⟨rfl, HT14.out⟩
              · have HS8 := Lib.hid hs8
                clear hs8
                refine HK9.out _ _ ?_
                clear HK9
                try simp only [zz]
                refine wpList_run (v := .tuple #[.int .i64 ((0 + G.length : Nat) : Int), .int .i64 0]) (wanted_none rfl) (exec_move rfl rfl) ?_
                simp only [zz]
                refine wpList_run (v := .int .i64 ((0 + G.length : Nat) : Int)) (wanted_none rfl) (ix_extract rfl rfl rfl) ?_
                simp only [zz]
                refine wpList_run (v := .int .i64 0) (wanted_none rfl) (ix_extract rfl rfl rfl) ?_
                simp only [zz]
                refine wpList_run (v := .int .i64 ((0 + G.length : Nat) : Int)) (wanted_none rfl) (gx_assign rfl rfl) ?_
                simp only [zz]
                refine wpList_run (v := .int .i64 0) (wanted_none rfl) (gx_assign rfl rfl) ?_
                simp only [zz]
                go_upto_region 25 with fail
                refine wp_region_lit ?_
                refine wpList_run (v := .int .i64 0) (wanted_none rfl) (exec_move rfl rfl) ?_
                simp only [zz]
                refine wpList_run (v := .bool false) (wanted_none rfl) (ix_eql rfl rfl rfl (by decide)) ?_
                simp only [zz]
                go_upto_region 34 with fail
                refine wp_region_lit ?_
                refine wpList_run (v := .int .i64 0) (wanted_none rfl) (exec_move rfl rfl) ?_
                simp only [zz]
                refine wpList_run (v := .bool false) (wanted_none rfl) (ix_neq rfl rfl rfl (by decide)) ?_
                simp only [zz]
                obtain ⟨A6, q6, e6, hls⟩ := HS8.out.ls
                rw [HTL.out] at e6 hls
                injection e6 with e7 _ e8
                subst e7 e8
                have HLS2 := Lib.hid hls
                clear hls
                go_upto_region 36 with fail
                refine wp_region_lit ?_
                refine wpList_run (v := .pointer (some ⟨b, 0, none⟩)) (wanted_none rfl) (exec_move rfl rfl) ?_
                simp only [zz]
                refine wpList_run (v := .slice A5 n13 c5) (wanted_none rfl) (exec_move rfl rfl) ?_
                simp only [zz]
                refine wpList_op rfl fun K9 HK9 => ?_
                go_wp2_with fail
                refine (HS8.out.st.with_ (cap := c5) HT8.out HLS2.out (by have := HGL.out; omega)).mono ?_
                rintro e w13 ⟨ht, b4, rfl, hs4⟩
                refine HK9.out _ _ ?_
                clear HK9
                try simp only [zz]
                have HT13 := Lib.hid ht
                have HS13 := Lib.hid hs4
                clear ht hs4
                refine wpList_run (v := .pointer (some ⟨b4, 0, none⟩)) (wanted_none rfl) (gx_assign rfl rfl) ?_
                simp only [zz]
                go_upto_region 8 with fail
                refine wp_region_lit ?_
                refine wpList_run (v := .int .i64 (j : Int)) (wanted_none rfl) (exec_move rfl rfl) ?_
                simp only [zz]
                refine wpList_run (v := .int .i64 ((j + 1 : Nat) : Int)) (wanted_none rfl) (ix_add rfl rfl rfl (by omega) (by omega)) ?_
                simp only [zz]
                refine wpList_run (v := .int .i64 ((j + 1 : Nat) : Int)) (wanted_none rfl) (gx_assign rfl rfl) ?_
                simp only [zz]
                go_wp2_with fail
                go_roundg (go - 1)
                case measure => have := HGK.out; have := HGO.out; omega
                case rel => exact ⟨j + 1, b4, G ++ [txs], rfl, rfl, by have := HGK.out; omega, HT13.out, HS13.out, by rw [List.length_append]; show G.length + 1 ≤ _; have := HGL.out; omega⟩
          · as_aux_lemma =>
              go_upto_region 22 with fail
              refine wp_region_lit ?_
              refine wpList_run (v := .int .i64 (j : Int)) (wanted_none rfl) (exec_move rfl rfl) ?_
              simp only [zz]
              refine wpList_run (v := .slice (some ⟨g1, o1, none⟩) n0 c0) (wanted_none rfl) (exec_move rfl rfl) ?_
              simp only [zz]
              refine wpList_run (v := .int .i64 (n0 : Int)) (wanted_none rfl) (gx_len rfl rfl Tryd.underlying33) ?_
              simp only [zz]
              refine wpList_run (v := .int .i64 ((n0 : Int) - 1)) (wanted_none rfl) (ix_sub rfl rfl rfl rfl (by omega)) ?_
              simp only [zz]
              refine wpList_run (v := .bool false) (wanted_none rfl) (ix_eql rfl rfl rfl (decide_eq_false hA)) ?_
              simp only [zz]
              refine wpList_run (v := .bool false) (wanted_none rfl) (exec_move rfl rfl) ?_
              simp only [zz]
              refine wpList_run (v := .int .i64 (j : Int)) rfl (exec_move rfl rfl) ?_
              simp only [zz]
              refine wpList_run (v := .bool false) rfl (ix_eql rfl rfl rfl (decide_eq_false (by omega))) ?_
              simp only [zz]
              refine wpList_run (v := .bool false) (wanted_none rfl) (ix_pickF rfl rfl rfl) ?_
              simp only [zz]
              have HS7 := Lib.hid (HFU.out.imp (ψ := fun z => j + 1 < m → z < 0) fun z h _ => h)
              have HT7 := HT6
              go_upto_region 24 with fail
              refine wp_region_lit ?_
              refine wpList_run (v := .pointer (some ⟨xg, 0, none⟩)) (wanted_none rfl) (exec_move rfl rfl) ?_
              simp only [zz]
              refine wpList_run (v := .slice A5 n13 c5) (wanted_none rfl) (exec_move rfl rfl) ?_
              simp only [zz]
              refine wpList_op (wanted_none rfl) fun K9 HK9 => ?_
              go_wp2_with fail
              refine (HS7.out.append HT7.out (by omega)).mono ?_
              rintro e w8 ⟨ht, hcase⟩
              have HT8 := Lib.hid ht
              clear ht
              rcases hcase with ⟨rfl, hs8⟩ | ⟨_, hbad⟩ | rfl | ⟨rfl, hs8⟩
              rotate_left
              · exact absurd hbad HLO.out
              · refine HK9.out _ _ ?_
                clear HK9
                try simp only [zz]
                refine wpList_run (v := .tuple #[.int .i64 0, .int .i64 3]) (wanted_none rfl) (exec_move rfl rfl) ?_
                simp only [zz]
                refine wpList_run (v := .int .i64 0) (wanted_none rfl) (ix_extract rfl rfl rfl) ?_
                simp only [zz]
                refine wpList_run (v := .int .i64 3) (wanted_none rfl) (ix_extract rfl rfl rfl) ?_
                simp only [zz]
                refine wpList_run (v := .int .i64 0) (wanted_none rfl) (gx_assign rfl rfl) ?_
                simp only [zz]
                refine wpList_run (v := .int .i64 3) (wanted_none rfl) (gx_assign rfl rfl) ?_
                simp only [zz]
                go_upto_region 25 with fail
                refine wp_region_lit ?_
                refine wpList_run (v := .int .i64 3) (wanted_none rfl) (exec_move rfl rfl) ?_
                simp only [zz]
                refine wpList_run (v := .bool false) (wanted_none rfl) (ix_eql rfl rfl rfl (by decide)) ?_
                simp only [zz]
                go_upto_region 34 with fail
                refine wp_region_lit ?_
                refine wpList_run (v := .int .i64 3) (wanted_none rfl) (exec_move rfl rfl) ?_
                simp only [zz]
                refine wpList_run (v := .bool true) (wanted_none rfl) (ix_neq rfl rfl rfl (by decide)) ?_
                simp only [zz]
                go_upto_region 35 with fail
                refine wp_region_lit ?_
                refine wpList_run (v := .int .i64 3) (wanted_none rfl) (exec_move rfl rfl) ?_
                simp only [zz]
                refine wpList_run (v := .bool true) (wanted_none rfl) (ix_eql rfl rfl rfl (by decide)) ?_
                simp only [zz]
                refine wpList_run (v := .bool true) (wanted_none rfl) (gx_assign rfl rfl) ?_
                simp only [zz]
                go_wp2_with fail
                go_ret
                exact ⟨rfl, HT8.out⟩
              · have HS8 := Lib.hid hs8
                clear hs8
                refine HK9.out _ _ ?_
                clear HK9
                try simp only [zz]
                refine wpList_run (v := .tuple #[.int .i64 0, .int .i64 2]) (wanted_none rfl) (exec_move rfl rfl) ?_
                simp only [zz]
                refine wpList_run (v := .int .i64 0) (wanted_none rfl) (ix_extract rfl rfl rfl) ?_
                simp only [zz]
                refine wpList_run (v := .int .i64 2) (wanted_none rfl) (ix_extract rfl rfl rfl) ?_
                simp only [zz]
                refine wpList_run (v := .int .i64 0) (wanted_none rfl) (gx_assign rfl rfl) ?_
                simp only [zz]
                refine wpList_run (v := .int .i64 2) (wanted_none rfl) (gx_assign rfl rfl) ?_
                simp only [zz]
                go_upto_region 25 with fail
                refine wp_region_lit ?_
                refine wpList_run (v := .int .i64 2) (wanted_none rfl) (exec_move rfl rfl) ?_
                simp only [zz]
                refine wpList_run (v := .bool true) (wanted_none rfl) (ix_eql rfl rfl rfl (by decide)) ?_
                simp only [zz]
                go_upto_region 26 with fail
                refine wp_region_lit ?_
                refine wpList_run (v := .pointer (some ⟨p, 0, none⟩)) (wanted_none rfl) (exec_move rfl rfl) ?_
                simp only [zz]
                refine wpList_run (v := .slice A2 n2 c2) (wanted_none rfl) (exec_move rfl rfl) ?_
                simp only [zz]
                refine wpList_op (wanted_none rfl) fun K9 HK9 => ?_
                go_wp2_with fail
                refine (HS8.out.boot (c := c2) HT8.out (by omega) HK2.out).mono ?_
                rintro e w9 ⟨rfl, ht, hcl⟩
                have HT9 := Lib.hid ht
                clear ht
                refine HK9.out _ _ ?_
                clear HK9
                try simp only [zz]
                rcases hcl with hcl | hcl
                · have HCL := Lib.hid hcl
                  clear hcl
                  go_upto_region 27 with fail
                  refine wp_region_lit ?_
                  refine wpList_run (v := .pointer (some ⟨p, 0, none⟩)) (wanted_none rfl) (exec_move rfl rfl) ?_
                  simp only [zz]
                  refine wpList_op rfl fun K9 HK9 => ?_
                  go_wp2_with fail
                  refine (HCL.out.open_ HT9.out (by omega) (by have := HGL.out; omega) (by decide) (by decide)).mono ?_
                  rintro e w10 ⟨ht, xn, rfl, hs⟩
                  refine HK9.out _ _ ?_
                  clear HK9
                  try simp only [zz]
                  have HT10 := Lib.hid ht
                  have HS10 := Lib.hid hs
                  clear ht hs
                  refine wpList_run (v := .tuple #[.pointer (some ⟨xn, 0, none⟩), .int .i64 0]) (wanted_none rfl) (exec_move rfl rfl) ?_
                  simp only [zz]
                  refine wpList_run (v := .pointer (some ⟨xn, 0, none⟩)) (wanted_none rfl) (ix_extract rfl rfl rfl) ?_
                  simp only [zz]
                  refine wpList_run (v := .int .i64 0) (wanted_none rfl) (ix_extract rfl rfl rfl) ?_
                  simp only [zz]
                  refine wpList_run (v := .pointer (some ⟨xn, 0, none⟩)) (wanted_none rfl) (gx_assign rfl rfl) ?_
                  simp only [zz]
                  refine wpList_run (v := .int .i64 0) (wanted_none rfl) (gx_assign rfl rfl) ?_
                  simp only [zz]
                  go_upto_region 28 with fail
                  refine wp_region_lit ?_
                  refine wpList_run (v := .pointer (some ⟨xn, 0, none⟩)) (wanted_none rfl) (exec_move rfl rfl) ?_
                  simp only [zz]
                  refine wpList_run (v := .bool false) (wanted_none rfl) (ptr_nilW rfl rfl rfl rfl) ?_
                  simp only [zz]
                  refine wpList_run (v := .bool false) (wanted_none rfl) (exec_move rfl rfl) ?_
                  simp only [zz]
                  refine wpList_run (v := .int .i64 0) rfl (exec_move rfl rfl) ?_
                  simp only [zz]
                  refine wpList_run (v := .bool false) rfl (ix_neq rfl rfl rfl (by decide)) ?_
                  simp only [zz]
                  refine wpList_run (v := .bool false) (wanted_none rfl) (ix_pickF rfl rfl rfl) ?_
                  simp only [zz]
                  go_upto_region 30 with fail
                  refine wp_region_lit ?_
                  refine wpList_run (v := .pointer (some ⟨xn, 0, none⟩)) (wanted_none rfl) (exec_move rfl rfl) ?_
                  simp only [zz]
                  refine wpList_op rfl fun K9 HK9 => ?_
                  go_wp2_with fail
                  refine (HS10.out.st.next (by omega)).mono ?_
                  rintro e w11 ⟨rfl, ht⟩
                  refine HK9.out _ _ ?_
                  clear HK9
                  try simp only [zz]
                  have HS11 := Lib.hid (HS10.out.still ht)
                  have HT11 := Lib.hid (HT10.out.trans ht fun _ _ e => e)
                  clear ht
                  refine wpList_run (v := .pointer (some ⟨b, 0, none⟩)) (wanted_none rfl) (exec_move rfl rfl) ?_
                  simp only [zz]
                  refine wpList_op rfl fun K9 HK9 => ?_
                  go_wp2_with fail
                  refine (HS11.out.st.bnext (by omega) (by have := HGL.out; omega)).mono ?_
                  rintro e w12 ⟨rfl, ht⟩
                  refine HK9.out _ _ ?_
                  clear HK9
                  try simp only [zz]
                  have HS12 := Lib.hid (HS11.out.still ht)
                  have HT12 := Lib.hid (HT11.out.trans ht fun _ _ e => e)
                  clear ht
                  refine wpList_run (v := .bool false) (wanted_none rfl) (ix_gtr rfl rfl rfl (decide_eq_false (by omega))) ?_
                  simp only [zz]
                  have HS13 := Lib.hid HS12.out.st
                  go_upto_region 32 with fail
                  refine wp_region_lit ?_
                  refine wpList_run (v := .pointer (some ⟨b, 0, none⟩)) (wanted_none rfl) (exec_move rfl rfl) ?_
                  simp only [zz]
                  refine wpList_run (v := .pointer (some ⟨xn, 0, none⟩)) (wanted_none rfl) (exec_move rfl rfl) ?_
                  simp only [zz]
                  refine wpList_op rfl fun K9 HK9 => ?_
                  go_wp2_with fail
                  refine (HS13.out.like (by omega) (by have := HGL.out; omega)).mono ?_
                  rintro e w14 ⟨rfl, ht⟩
                  refine HK9.out _ _ ?_
                  clear HK9
                  try simp only [zz]
                  try rw [decide_eq_true (rfl : (G) = (G))]
                  have HT14 := Lib.hid (HT12.out.trans ht fun _ _ e => e)
                  clear ht
                  refine wpList_run (v := .bool true) (wanted_none rfl) (gx_assign rfl rfl) ?_
                  simp only [zz]
                  go_upto_region 33 with fail
                  refine wp_region_lit ?_
                  refine wpList_run (v := .bool true) (wanted_none rfl) (exec_move rfl rfl) ?_
                  simp only [zz]
                  refine wpList_run (v := .bool true) (wanted_none rfl) (gx_assign rfl rfl) ?_
                  simp only [zz]
                  go_wp2_with fail
                  go_ret
                  exact ⟨rfl, HT14.out⟩
                · have HCL := Lib.hid hcl
                  clear hcl
                  go_upto_region 27 with fail
                  refine wp_region_lit ?_
                  refine wpList_run (v := .pointer (some ⟨p, 0, none⟩)) (wanted_none rfl) (exec_move rfl rfl) ?_
                  simp only [zz]
                  refine wpList_op rfl fun K9 HK9 => ?_
                  go_wp2_with fail
                  refine (HCL.out.open_ HT9.out (by omega) (by rw [List.length_append]; show 0 + (G.length + 1) ≤ _; have := HGL.out; omega) (by decide) (by decide)).mono ?_
                  rintro e w10 ⟨ht, xn, rfl, hs⟩
                  refine HK9.out _ _ ?_
                  clear HK9
                  try simp only [zz]
                  have HT10 := Lib.hid ht
                  have HS10 := Lib.hid hs
                  clear ht hs
                  refine wpList_run (v := .tuple #[.pointer (some ⟨xn, 0, none⟩), .int .i64 0]) (wanted_none rfl) (exec_move rfl rfl) ?_
                  simp only [zz]
                  refine wpList_run (v := .pointer (some ⟨xn, 0, none⟩)) (wanted_none rfl) (ix_extract rfl rfl rfl) ?_
                  simp only [zz]
                  refine wpList_run (v := .int .i64 0) (wanted_none rfl) (ix_extract rfl rfl rfl) ?_
                  simp only [zz]
                  refine wpList_run (v := .pointer (some ⟨xn, 0, none⟩)) (wanted_none rfl) (gx_assign rfl rfl) ?_
                  simp only [zz]
                  refine wpList_run (v := .int .i64 0) (wanted_none rfl) (gx_assign rfl rfl) ?_
                  simp only [zz]
                  go_upto_region 28 with fail
                  refine wp_region_lit ?_
                  refine wpList_run (v := .pointer (some ⟨xn, 0, none⟩)) (wanted_none rfl) (exec_move rfl rfl) ?_
                  simp only [zz]
                  refine wpList_run (v := .bool false) (wanted_none rfl) (ptr_nilW rfl rfl rfl rfl) ?_
                  simp only [zz]
                  refine wpList_run (v := .bool false) (wanted_none rfl) (exec_move rfl rfl) ?_
                  simp only [zz]
                  refine wpList_run (v := .int .i64 0) rfl (exec_move rfl rfl) ?_
                  simp only [zz]
                  refine wpList_run (v := .bool false) rfl (ix_neq rfl rfl rfl (by decide)) ?_
                  simp only [zz]
                  refine wpList_run (v := .bool false) (wanted_none rfl) (ix_pickF rfl rfl rfl) ?_
                  simp only [zz]
                  go_upto_region 30 with fail
                  refine wp_region_lit ?_
                  refine wpList_run (v := .pointer (some ⟨xn, 0, none⟩)) (wanted_none rfl) (exec_move rfl rfl) ?_
                  simp only [zz]
                  refine wpList_op rfl fun K9 HK9 => ?_
                  go_wp2_with fail
                  refine (HS10.out.st.next (by omega)).mono ?_
                  rintro e w11 ⟨rfl, ht⟩
                  refine HK9.out _ _ ?_
                  clear HK9
                  try simp only [zz]
                  have HS11 := Lib.hid (HS10.out.still ht)
                  have HT11 := Lib.hid (HT10.out.trans ht fun _ _ e => e)
                  clear ht
                  refine wpList_run (v := .pointer (some ⟨b, 0, none⟩)) (wanted_none rfl) (exec_move rfl rfl) ?_
                  simp only [zz]
                  refine wpList_op rfl fun K9 HK9 => ?_
                  go_wp2_with fail
                  refine (HS11.out.st.bnext (by omega) (by have := HGL.out; omega)).mono ?_
                  rintro e w12 ⟨rfl, ht⟩
                  refine HK9.out _ _ ?_
                  clear HK9
                  try simp only [zz]
                  have HS12 := Lib.hid (HS11.out.still ht)
                  have HT12 := Lib.hid (HT11.out.trans ht fun _ _ e => e)
                  clear ht
                  have hlen : (G ++ [txs]).length = G.length + 1 := by rw [List.length_append]; rfl
                  rw [hlen]
                  clear hlen
                  refine wpList_run (v := .bool true) (wanted_none rfl) (ix_gtr rfl rfl rfl (decide_eq_true (by omega))) ?_
                  simp only [zz]
                  obtain ⟨A6, q6, e6, hls⟩ := HS12.out.ls
                  rw [HTL.out] at e6 hls
                  injection e6 with e7 _ e8
                  subst e7 e8
                  have HLS2 := Lib.hid hls
                  clear hls
                  go_upto_region 31 with fail
                  refine wp_region_lit ?_
                  refine wpList_run (v := .pointer (some ⟨b, 0, none⟩)) (wanted_none rfl) (exec_move rfl rfl) ?_
                  simp only [zz]
                  refine wpList_run (v := .slice A5 n13 c5) (wanted_none rfl) (exec_move rfl rfl) ?_
                  simp only [zz]
                  refine wpList_op rfl fun K9 HK9 => ?_
                  go_wp2_with fail
                  refine (HS12.out.st.with_ (cap := c5) HT12.out HLS2.out (by have := HGL.out; omega)).mono ?_
                  rintro e w13 ⟨ht, b4, rfl, hs4⟩
                  refine HK9.out _ _ ?_
                  clear HK9
                  try simp only [zz]
                  have HT13 := Lib.hid ht
                  have HS13 := Lib.hid hs4
                  clear ht hs4
                  refine wpList_run (v := .pointer (some ⟨b4, 0, none⟩)) (wanted_none rfl) (gx_assign rfl rfl) ?_
                  simp only [zz]
                  go_upto_region 32 with fail
                  refine wp_region_lit ?_
                  refine wpList_run (v := .pointer (some ⟨b4, 0, none⟩)) (wanted_none rfl) (exec_move rfl rfl) ?_
                  simp only [zz]
                  refine wpList_run (v := .pointer (some ⟨xn, 0, none⟩)) (wanted_none rfl) (exec_move rfl rfl) ?_
                  simp only [zz]
                  refine wpList_op rfl fun K9 HK9 => ?_
                  go_wp2_with fail
                  refine (HS13.out.like (by omega) (by rw [List.length_append]; show G.length + 1 ≤ _; have := HGL.out; omega)).mono ?_
                  rintro e w14 ⟨rfl, ht⟩
                  refine HK9.out _ _ ?_
                  clear HK9
                  try simp only [zz]
                  try rw [decide_eq_true (rfl : (G ++ [txs]) = (G ++ [txs]))]
                  have HT14 := Lib.hid (HT13.out.trans ht fun _ _ e => e)
                  clear ht
                  refine wpList_run (v := .bool true) (wanted_none rfl) (gx_assign rfl rfl) ?_
                  simp only [zz]
                  go_upto_region 33 with fail
                  refine wp_region_lit ?_
                  refine wpList_run (v := .bool true) (wanted_none rfl) (exec_move rfl rfl) ?_
                  simp only [zz]
                  refine wpList_run (v := .bool true) (wanted_none rfl) (gx_assign rfl rfl) ?_
                  simp only [zz]
                  go_wp2_with fail
                  go_ret
                  exact ⟨rfl, HT14.out⟩
              · have HS8 := Lib.hid hs8
                clear hs8
                refine HK9.out _ _ ?_
                clear HK9
                try simp only [zz]
                refine wpList_run (v := .tuple #[.int .i64 ((0 + G.length : Nat) : Int), .int .i64 0]) (wanted_none rfl) (exec_move rfl rfl) ?_
                simp only [zz]
                refine wpList_run (v := .int .i64 ((0 + G.length : Nat) : Int)) (wanted_none rfl) (ix_extract rfl rfl rfl) ?_
                simp only [zz]
                refine wpList_run (v := .int .i64 0) (wanted_none rfl) (ix_extract rfl rfl rfl) ?_
                simp only [zz]
                refine wpList_run (v := .int .i64 ((0 + G.length : Nat) : Int)) (wanted_none rfl) (gx_assign rfl rfl) ?_
                simp only [zz]
                refine wpList_run (v := .int .i64 0) (wanted_none rfl) (gx_assign rfl rfl) ?_
                simp only [zz]
                go_upto_region 25 with fail
                refine wp_region_lit ?_
                refine wpList_run (v := .int .i64 0) (wanted_none rfl) (exec_move rfl rfl) ?_
                simp only [zz]
                refine wpList_run (v := .bool false) (wanted_none rfl) (ix_eql rfl rfl rfl (by decide)) ?_
                simp only [zz]
                go_upto_region 34 with fail
                refine wp_region_lit ?_
                refine wpList_run (v := .int .i64 0) (wanted_none rfl) (exec_move rfl rfl) ?_
                simp only [zz]
                refine wpList_run (v := .bool false) (wanted_none rfl) (ix_neq rfl rfl rfl (by decide)) ?_
                simp only [zz]
                obtain ⟨A6, q6, e6, hls⟩ := HS8.out.ls
                rw [HTL.out] at e6 hls
                injection e6 with e7 _ e8
                subst e7 e8
                have HLS2 := Lib.hid hls
                clear hls
                go_upto_region 36 with fail
                refine wp_region_lit ?_
                refine wpList_run (v := .pointer (some ⟨b, 0, none⟩)) (wanted_none rfl) (exec_move rfl rfl) ?_
                simp only [zz]
                refine wpList_run (v := .slice A5 n13 c5) (wanted_none rfl) (exec_move rfl rfl) ?_
                simp only [zz]
                refine wpList_op rfl fun K9 HK9 => ?_
                go_wp2_with fail
                refine (HS8.out.st.with_ (cap := c5) HT8.out HLS2.out (by have := HGL.out; omega)).mono ?_
                rintro e w13 ⟨ht, b4, rfl, hs4⟩
                refine HK9.out _ _ ?_
                clear HK9
                try simp only [zz]
                have HT13 := Lib.hid ht
                have HS13 := Lib.hid hs4
                clear ht hs4
                refine wpList_run (v := .pointer (some ⟨b4, 0, none⟩)) (wanted_none rfl) (gx_assign rfl rfl) ?_
                simp only [zz]
                go_upto_region 8 with fail
                refine wp_region_lit ?_
                refine wpList_run (v := .int .i64 (j : Int)) (wanted_none rfl) (exec_move rfl rfl) ?_
                simp only [zz]
                refine wpList_run (v := .int .i64 ((j + 1 : Nat) : Int)) (wanted_none rfl) (ix_add rfl rfl rfl (by omega) (by omega)) ?_
                simp only [zz]
                refine wpList_run (v := .int .i64 ((j + 1 : Nat) : Int)) (wanted_none rfl) (gx_assign rfl rfl) ?_
                simp only [zz]
                go_wp2_with fail
                go_roundg (go - 1)
                case measure => have := HGK.out; have := HGO.out; omega
                case rel => exact ⟨j + 1, b4, G ++ [txs], rfl, rfl, by have := HGK.out; omega, HT13.out, HS13.out, by rw [List.length_append]; show G.length + 1 ≤ _; have := HGL.out; omega⟩
  · by_cases hn : j < n0
    · go_upto_region 7 with fail
      refine wp_region_lit ?_
      refine wpList_run (v := .int .i64 (j : Int)) (wanted_none rfl) (exec_move rfl rfl) ?_
      simp only [zz]
      refine wpList_run (v := .slice A0 n0 c0) (wanted_none rfl) (exec_move rfl rfl) ?_
      simp only [zz]
      refine wpList_run (v := .int .i64 (n0 : Int)) (wanted_none rfl) (gx_len rfl rfl Tryd.underlying33) ?_
      simp only [zz]
      refine wpList_run (v := .bool true) (wanted_none rfl) (ix_lss rfl rfl rfl (decide_eq_true (by omega))) ?_
      simp only [zz]
      refine wpList_run (v := .bool true) (wanted_none rfl) (exec_move rfl rfl) ?_
      simp only [zz]
      refine wpList_run (v := .int .i64 (j : Int)) rfl (exec_move rfl rfl) ?_
      simp only [zz]
      refine wpList_run (v := .bool false) rfl (ix_lss rfl rfl rfl (decide_eq_false (by omega))) ?_
      simp only [zz]
      refine wpList_run (v := .bool false) (wanted_none rfl) (ix_pickT rfl rfl rfl) ?_
      simp only [zz]
      go_upto_region 37 with fail
      refine wp_region_lit ?_
      refine wpList_run (v := .pointer (some ⟨b, 0, none⟩)) (wanted_none rfl) (exec_move rfl rfl) ?_
      simp only [zz]
      refine wpList_run (v := .pointer (some ⟨xg, 0, none⟩)) (wanted_none rfl) (exec_move rfl rfl) ?_
      simp only [zz]
      refine wpList_op rfl fun K9 HK9 => ?_
      go_wp2_with fail
      refine (HST.out.like (by omega) (by have := HGL.out; omega)).mono ?_
      rintro e w14 ⟨rfl, ht⟩
      refine HK9.out _ _ ?_
      clear HK9
      try simp only [zz]
      try rw [decide_eq_true (rfl : G = G)]
      have HT14 := Lib.hid (HTR.out.trans ht fun _ _ e => e)
      clear ht
      refine wpList_run (v := .bool true) (wanted_none rfl) (gx_assign rfl rfl) ?_
      simp only [zz]
      go_upto_region 38 with fail
      refine wp_region_lit ?_
      refine wpList_run (v := .bool true) (wanted_none rfl) (exec_move rfl rfl) ?_
      simp only [zz]
      refine wpList_run (v := .bool true) (wanted_none rfl) (gx_assign rfl rfl) ?_
      simp only [zz]
      go_wp2_with fail
      go_ret
      exact ⟨rfl, HT14.out⟩
    · go_upto_region 7 with fail
      refine wp_region_lit ?_
      refine wpList_run (v := .int .i64 (j : Int)) (wanted_none rfl) (exec_move rfl rfl) ?_
      simp only [zz]
      refine wpList_run (v := .slice A0 n0 c0) (wanted_none rfl) (exec_move rfl rfl) ?_
      simp only [zz]
      refine wpList_run (v := .int .i64 (n0 : Int)) (wanted_none rfl) (gx_len rfl rfl Tryd.underlying33) ?_
      simp only [zz]
      refine wpList_run (v := .bool false) (wanted_none rfl) (ix_lss rfl rfl rfl (decide_eq_false (by omega))) ?_
      simp only [zz]
      refine wpList_run (v := .bool false) (wanted_none rfl) (exec_move rfl rfl) ?_
      simp only [zz]
      refine wpList_skip (by go_simp) ?_
      simp only [zz]
      refine wpList_skip (by go_simp) ?_
      simp only [zz]
      refine wpList_run (v := .bool false) (wanted_none rfl) (ix_pickF rfl rfl rfl) ?_
      simp only [zz]
      go_upto_region 37 with fail
      refine wp_region_lit ?_
      refine wpList_run (v := .pointer (some ⟨b, 0, none⟩)) (wanted_none rfl) (exec_move rfl rfl) ?_
      simp only [zz]
      refine wpList_run (v := .pointer (some ⟨xg, 0, none⟩)) (wanted_none rfl) (exec_move rfl rfl) ?_
      simp only [zz]
      refine wpList_op rfl fun K9 HK9 => ?_
      go_wp2_with fail
      refine (HST.out.like (by omega) (by have := HGL.out; omega)).mono ?_
      rintro e w14 ⟨rfl, ht⟩
      refine HK9.out _ _ ?_
      clear HK9
      try simp only [zz]
      try rw [decide_eq_true (rfl : G = G)]
      have HT14 := Lib.hid (HTR.out.trans ht fun _ _ e => e)
      clear ht
      refine wpList_run (v := .bool true) (wanted_none rfl) (gx_assign rfl rfl) ?_
      simp only [zz]
      go_upto_region 38 with fail
      refine wp_region_lit ?_
      refine wpList_run (v := .bool true) (wanted_none rfl) (exec_move rfl rfl) ?_
      simp only [zz]
      refine wpList_run (v := .bool true) (wanted_none rfl) (gx_assign rfl rfl) ?_
      simp only [zz]
      go_wp2_with fail
      go_ret
      exact ⟨rfl, HT14.out⟩
theorem walForged_walk (A0 : Option Addr) (n0 c0 : Nat) (l0 : Wl.Rec) (A1 : Option Addr) (n1 c1 : Nat) (zs : List Int) (A2 : Option Addr) (n2 c2 : Nat) (ks : List Int) (w : World) (h0 : Ls w A0 n0 l0) (h1 : Ks w nowhere A1 n1 zs) (hz : ∀ z ∈ zs, -9223372036854775808 ≤ z ∧ z ≤ 9223372036854775807) (h2 : Ks w nowhere A2 n2 ks) (hn1 : n1 ≤ 140737488355328) (htab : Tab w) :
    Calls Tryd.prog 7 #[.slice A0 n0 c0, .slice A1 n1 c1, .slice A2 n2 c2] w fun r w' => r = .returned (.bool true) ∧ Below w.heap.size w w' :=
  (walForged_main A0 n0 c0 l0 A1 n1 c1 zs A2 n2 c2 ks w h0 h1 hz h2 hn1 htab).mono fun r w' ⟨h1, h2⟩ => ⟨h1, h2.below (Nat.le_refl _) fun _ _ e => e⟩
end Go.Proofs.YtbfeejkdlhdioaaDoor
