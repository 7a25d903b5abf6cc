/-
  Texts in one file: WmBC. Conditions: the tables and the errors read as the program's text lays them.
-/
import Derived.Test.YtelipeoilcepbaaDoorWp0
import Derived.Test.YtelipeoilcepbaaDoorWp33
import Derived.Test.YtelipeoilcepbaaDoorWp22
namespace Go.Proofs.YtelipeoilcepbaaDoor
open Go.RowKit
open Wl (B8)
set_option linter.unusedVariables false
set_option linter.unusedSimpArgs false
set_option maxRecDepth 20000
def OwT (w : World) (B : Nat) (u : Value) (x : B8) : Prop := ∃ A m c, u = .slice A m c ∧ Orw w B 5 1 (.slice A m c) (x.map fun y => [.int .u8 (y.toNat : Int)]) ∧ m ≤ 1048576
theorem OwT.still {w w' : World} {B : Nat} {u : Value} {x : B8} (h : OwT w B u x) (ht : Turn nowhere w w') : OwT w' B u x := by
  obtain ⟨A, m, c, e, h1, h2⟩ := h
  exact ⟨A, m, c, e, h1.still ht, h2⟩
theorem OwT.txz {w : World} {B : Nat} {u : Value} {x : B8} (h : OwT w B u x) : TxZ w (fun k => B ≤ k) u x := by
  obtain ⟨A, m, c, e, h1, h2⟩ := h
  have h3 := orw_cap h1
  rw [List.length_map] at h3
  have h4 := h1.rws (by rw [List.length_map]; omega) (by decide)
  exact ⟨A, m, c, e, rws_bs h4, h3.1, h2, orw_inZ h1⟩
def OwnR (w : World) (B : Nat) (v : Value) (l : Wl.Rec) (i : Nat) : Prop := ∃ vs : List Value, Orw w B 38 1 v (vs.map one1) ∧ vs.length = i ∧ ∀ (j : Nat) (u : Value) (x : B8), vs[j]? = some u → l[j]? = some x → OwT w B u x
theorem OwnR.still {w w' : World} {B : Nat} {v : Value} {l : Wl.Rec} {i : Nat} (h : OwnR w B v l i) (ht : Turn nowhere w w') : OwnR w' B v l i := by
  obtain ⟨vs, h1, h2, h3⟩ := h
  exact ⟨vs, h1.still ht, h2, fun j u x hu hx => (h3 j u x hu hx).still ht⟩
theorem OwnR.form {w : World} {B : Nat} {v : Value} {l : Wl.Rec} {i : Nat} (h : OwnR w B v l i) : ∃ A c, v = .slice A i c := by
  obtain ⟨vs, h1, h2, _⟩ := h
  obtain ⟨A, c, e, _⟩ := h1.form
  rw [List.length_map, h2] at e
  exact ⟨A, c, e⟩
theorem OwnR.lsz {w : World} {B : Nat} {v : Value} {l : Wl.Rec} (h : OwnR w B v l l.length) (hl : l.length ≤ 1048576) : LsZ w (fun k => B ≤ k) v l := by
  obtain ⟨vs, h1, h2, h3⟩ := h
  obtain ⟨A, c, e, h4, _, h5, _⟩ := h1.form
  rw [List.length_map, h2] at e h4
  subst e
  have h6 := h1.rws (by rw [List.length_map, h2]; omega) (by decide)
  exact ⟨A, _, c, vs, rfl, h6, h2, fun i u x hu hx => (h3 i u x hu hx).txz, h5, hl, orw_inZ h1⟩
theorem own_next {W0 w : World} {v : Value} {l : Wl.Rec} {i : Nat} {A : Option Addr} {m c : Nat} {x : B8} {ty : TypeId} (h : OwnR w W0.heap.size v l i) (hT : Turn nowhere W0 w) (hx : l[i]? = some x) (hi : i ≤ 1048576) (ht : OwT w W0.heap.size (.slice A m c) x) :
    ∃ A' c' w', (Builtin.append_ #[33, 33] ty #[v, .slice (some ⟨w.heap.size, 0, none⟩) 1 1]).run Tryd.prog (w.alloc (.cells #[.slice A m c] 38)) = .ok (.slice A' (i + 1) c') w' ∧ OwnR w' W0.heap.size (.slice A' (i + 1) c') l (i + 1) ∧ Turn nowhere W0 w' := by
  obtain ⟨vs, h1, h2, h3⟩ := h
  have hal := (Turn.refl nowhere w).alloc (.cells #[.slice A m c] 38)
  have h1' := h1.still hal
  have hfit : Fit 1 [one1 (.slice A m c)] := Fit.one rfl fun u hu => by
    obtain rfl : u = .slice A m c := by simpa [one1] using hu
    rfl
  obtain ⟨A', c', w', hrun, how, hgr, _⟩ := orw_grow elmT8 (ty := ty) (m := 1) (c := 1) h1' (by have := hT.size; have := hal.size; omega) (rws_one (w := w) (r := one1 (.slice A m c)) (et := 38) (k := 1) rfl fun _ => trivial) hfit (fun e => by cases e) (by rw [List.length_map, h2]; omega)
  rw [List.length_map, h2] at hrun how
  have htt : Turn nowhere W0 w' := (hT.trans hal fun _ _ e => e).grown hgr fun g e hg => by
    have := (h1'.lt e).1
    omega
  have key : ∀ (u : Value) (y : B8), OwT w W0.heap.size u y → OwT w' W0.heap.size u y := fun u y hu => by
    obtain ⟨A9, m9, c9, e9, g1, g2⟩ := hu.still hal
    refine ⟨A9, m9, c9, e9, g1.turn ((Turn.refl (fun k => v.ownBlock = some k) _).grown hgr fun g e _ => e) fun k hk e => ?_, g2⟩
    obtain ⟨cu1, hb1⟩ := g1.own_blk hk
    obtain ⟨cu2, hb2⟩ := h1'.own_blk e
    exact hb1.ne_ hb2 (by decide) rfl
  refine ⟨A', c', w', hrun, ⟨vs ++ [.slice A m c], by rw [List.map_append]; exact how, by simp [h2], fun j u y hu hy => ?_⟩, htt⟩
  by_cases hj : j < vs.length
  · rw [List.getElem?_append_left hj] at hu
    exact key u y (h3 j u y hu hy)
  · rw [List.getElem?_append_right (by omega)] at hu
    have hj2 : j = i := by
      have := (List.getElem?_eq_some_iff.1 hu).1
      simp at this
      omega
    subst hj2
    rw [h2, Nat.sub_self] at hu
    obtain rfl : Value.slice A m c = u := by simpa using hu
    rw [hx] at hy
    obtain rfl := Option.some.inj hy
    exact key _ _ ht
theorem copy_own {W0 w : World} {A : Option Addr} {m c : Nat} {x : B8} {ty : TypeId} (h : Bs w A m x) (hm : m ≤ 1048576) (hc : A = none → c = 0) (hW : W0.heap.size ≤ w.heap.size) :
    ∃ A' c' w', (Builtin.append_ #[38, 38] ty #[.slice (some ⟨w.heap.size, 0, none⟩) 0 0, .slice A m c]).run Tryd.prog (w.alloc (.cells #[] 5)) = .ok (.slice A' m c') w' ∧ OwT w' W0.heap.size (.slice A' m c') x ∧ Turn nowhere w w' := by
  obtain ⟨A', c', w', h1, h2, h3⟩ := copy_rws elmB8 (ty := ty) (c := c) (bs_rws h hm) (bs_fit x) hc (by omega)
  exact ⟨A', c', w', h1, ⟨A', m, c', rfl, h2.less hW, hm⟩, h3⟩
def WithP (w : World) (f : Nat) (gs : List Wl.Rec) (l : Wl.Rec) (Z : Nat → Prop) (r : Ending) (w' : World) : Prop := ∃ b', r = .returned (.pointer (some ⟨b', 0, none⟩)) ∧ Bk w' b' f (gs ++ [l]) (fun k => Z k ∨ w.heap.size ≤ k) ∧ Turn nowhere w w'
theorem gsz_snoc {w : World} {Z : Nat → Prop} {B : Nat} {A : Option Addr} {c : Nat} {gs : List Wl.Rec} {l : Wl.Rec} {vs : List Value} {u : Value} (ho : Orw w B 33 1 (.slice A (gs.length + 1) c) ((vs ++ [u]).map one1)) (hl : vs.length = gs.length) (hg : ∀ (i : Nat) (v : Value) (L : Wl.Rec), vs[i]? = some v → gs[i]? = some L → LsZ w Z v L) (hu : LsZ w (fun k => B ≤ k) u l) (hn : gs.length ≤ 1000000) : GsZ w (fun k => Z k ∨ B ≤ k) (.slice A (gs.length + 1) c) (gs ++ [l]) := by
  obtain ⟨h1, h2, _⟩ := orw_cap ho
  have h6 := ho.rws (by rw [List.length_map, List.length_append, hl]; show gs.length + 1 ≤ _; omega) (by decide)
  refine ⟨A, _, c, vs ++ [u], rfl, h6, by simp [hl], fun i v L hv hL => ?_, h1, h2, (orw_inZ ho).mono fun k hk => .inr hk⟩
  by_cases hi : i < vs.length
  · rw [List.getElem?_append_left hi] at hv
    rw [List.getElem?_append_left (by omega)] at hL
    exact (hg i v L hv hL).mono fun k hk => .inl hk
  · rw [List.getElem?_append_right (by omega)] at hv hL
    have hi2 : i = vs.length := by
      have := (List.getElem?_eq_some_iff.1 hv).1
      simp at this
      omega
    subst hi2
    rw [Nat.sub_self] at hv
    rw [hl, Nat.sub_self] at hL
    obtain rfl : u = v := by simpa using hv
    obtain rfl : l = L := by simpa using hL
    exact hu.mono fun k hk => .inr hk
set_option maxRecDepth 20000 in
set_option maxHeartbeats 4000000 in
theorem with_walk {w : World} {b f : Nat} {gs : List Wl.Rec} {Z : Nat → Prop} {A0 : Option Addr} {n0 c0 : Nat} {l : Wl.Rec} (h : Bk w b f gs Z) (hl : Ls w A0 n0 l) (hg : gs.length ≤ 1000) :
    Calls Tryd.prog 12 #[.pointer (some ⟨b, 0, none⟩), .slice A0 n0 c0] w (WithP w f gs l Z) := by
  have HBK := Lib.hid h
  have HL := Lib.hid hl
  have HN := Lib.hid hl.1
  have yn : (n0 : Int) ≤ 1048576 := by have := hl.2.1; omega
  have HG := Lib.hid hg
  clear h hl hg
  go_enter Tryd.func12, Tryd.ntmps12
  go_upto_region 0 with fail
  refine wp_region_lit ?_
  refine nR (.pointer none) (gx_assign rfl rfl) ?_;simp only [zz]
  go_upto_region 1 with fail
  refine wp_region_lit ?_
  refine wpList_run (v := .slice (some ⟨w.heap.size, 0, none⟩) 0 0) (w' := w.alloc (.cells #[] 38)) (wanted_none rfl) (bx_slice0 rfl (build0_LS _)) ?_;simp only [zz];refine nR (.slice (some ⟨w.heap.size, 0, none⟩) 0 0) (gx_assign rfl rfl) ?_;simp only [zz]
  have how : OwnR (w.alloc (.cells #[] 38)) w.heap.size (.slice (some ⟨w.heap.size, 0, none⟩) 0 0) l 0 := ⟨[], ⟨Fit.nil 1, World.ownsRow_made w #[] 0 (Nat.le_refl _) (by unfold maxLen; omega) (by simp)⟩, rfl, fun j u x hu => by simp at hu⟩
  have ht0 := (Turn.refl nowhere w).alloc (.cells #[] 38)
  generalize w.alloc (.cells #[] 38) = w1 at *
  have HOW := Lib.hid how
  have HT0 := Lib.hid ht0
  clear how ht0
  go_upto_region 2 with fail
  refine wp_region_lit ?_
  refine nR (.int .i64 0) (gx_assign rfl rfl) ?_;simp only [zz]
  obtain ⟨sv, hsv⟩ : ∃ z, z = Value.slice (some ⟨w.heap.size, 0, none⟩) 0 0 := ⟨_, rfl⟩
  rw [← hsv] at HOW ⊢
  clear hsv
  go_wp2_with fail
  go_loopg [5, 6] n0 (fun gk ov iv wr => ∃ i : Nat, iv = .int .i64 (i : Int) ∧ i + gk = n0 ∧ OwnR wr w.heap.size ov l i ∧ Turn nowhere w wr)
  case atStart => exact ⟨0, rfl, by omega, HOW.out, HT0.out⟩
  clear HOW HT0
  obtain ⟨i, rfl, hgk, how, htr⟩ := hrel
  obtain ⟨A5, c5, e5⟩ := how.form
  subst e5
  have HGK := Lib.hid hgk
  have HOW := Lib.hid how
  have HTR := Lib.hid htr
  have yi : (i : Int) ≤ (n0 : Int) := by omega
  clear hgk how htr
  by_cases hlt : i < n0
  · have HLT := Lib.hid hlt
    have y3 : (i : Int) < (n0 : Int) := by omega
    obtain ⟨x, hx⟩ : ∃ x, l[i]? = some x := ⟨l[i]'(by rw [HN.out]; exact hlt), List.getElem?_eq_getElem (by rw [HN.out]; exact hlt)⟩
    obtain ⟨g1, o1, a1, m1, q1, rfl, hc1, hb1, hn1, hm1⟩ := ls_at (HL.out.still HTR.out) hx
    obtain ⟨A2, c2, w2, hr2, how2, ht2⟩ := copy_own (W0 := w) (ty := 38) (c := q1) hb1 hm1 hn1 HTR.out.size
    have HTR2 := Lib.hid (HTR.out.trans ht2 fun _ _ e => e)
    obtain ⟨A3, c3, w3, hr3, how3, ht3⟩ := own_next (W0 := w) (ty := 33) (HOW.out.still ht2) HTR2.out hx (by omega) how2
    have HC1 := Lib.hid (show (wr.alloc (.cells #[] 5)).cell? ⟨g1, o1 + i * 1, none⟩ = some (.slice a1 m1 q1) from by
      rw [((Turn.refl nowhere wr).alloc (.cells #[] 5)).cell (World.block_lt_of_cell? _ _ hc1) (fun e => e)]
      exact hc1)
    have HR2 := Lib.hid hr2
    have HR3 := Lib.hid hr3
    have HOW3 := Lib.hid how3
    have HTR3 := Lib.hid ht3
    clear hlt hc1 hb1 hn1 hm1 hr2 how2 ht2 hr3 how3 ht3 hx
    go_upto_region 3 with fail
    refine wp_region_lit ?_
    refine nR (.int .i64 (i : Int)) (exec_move rfl rfl) ?_;simp only [zz];refine nR (.slice (some ⟨g1, o1, none⟩) n0 c0) (exec_move rfl rfl) ?_;simp only [zz];refine nR (.int .i64 (n0 : Int)) (gx_len rfl rfl Tryd.underlying33) ?_;simp only [zz];refine nR (.bool true) (ix_lss rfl rfl rfl (decide_eq_true y3)) ?_;simp only [zz]
    go_upto_region 5 with fail
    refine wp_region_lit ?_
    refine nR (.slice A5 i c5) (exec_move rfl rfl) ?_;simp only [zz];refine wpList_run (v := .slice (some ⟨wr.heap.size, 0, none⟩) 0 0) (w' := wr.alloc (.cells #[] 5)) (wanted_none rfl) (bx_slice0 rfl (build0_U8 _)) ?_;simp only [zz];refine nR (.slice (some ⟨g1, o1, none⟩) n0 c0) (exec_move rfl rfl) ?_;simp only [zz];refine nR (.int .i64 (i : Int)) (exec_move rfl rfl) ?_;simp only [zz];refine nR (.pointer (some ⟨g1, o1 + i * 1, none⟩)) (gx_iaddr (i := i) (sz := 1) rfl rfl rfl Tryd.underlying33 size_T8 HLT.out rfl) ?_;simp only [zz];refine nR (.slice a1 m1 q1) (exec_load1 rfl rfl (by kernel_rfl) HC1.out) ?_;simp only [zz];refine wpList_run (v := .slice A2 m1 c2) (w' := w2) (wanted_none rfl) (exec_append rfl rfl rfl HR2.out) ?_;simp only [zz];refine wpList_run (v := .slice (some ⟨w2.heap.size, 0, none⟩) 1 1) (w' := w2.alloc (.cells #[.slice A2 m1 c2] 38)) (wanted_none rfl) (exec_buildSlice1 rfl rfl (build_one elmT8 (one1 (.slice A2 m1 c2)) rfl (by decide) _ rfl _)) ?_;simp only [zz];refine wpList_run (v := .slice A3 (i + 1) c3) (w' := w3) (wanted_none rfl) (exec_append rfl rfl rfl HR3.out) ?_;simp only [zz];refine nR (.slice A3 (i + 1) c3) (gx_assign rfl rfl) ?_;simp only [zz]
    go_upto_region 4 with fail
    refine wp_region_lit ?_
    refine nR (.int .i64 (i : Int)) (exec_move rfl rfl) ?_;simp only [zz];refine nR (.int .i64 ((i + 1 : Nat) : Int)) (ix_add rfl rfl rfl (by omega) (by omega)) ?_;simp only [zz];refine nR (.int .i64 ((i + 1 : Nat) : Int)) (gx_assign rfl rfl) ?_;simp only [zz]
    go_wp2_with fail
    go_roundg (n0 - (i + 1))
    case measure => have := HGK.out; have := HLT.out; omega
    case rel => exact ⟨i + 1, rfl, by have := HLT.out; omega, HOW3.out, HTR3.out⟩
  · obtain rfl : i = n0 := by omega
    have y3 : ¬ (i : Int) < (i : Int) := by omega
    clear hlt
    have hlz := HOW.out
    rw [← HN.out] at hlz
    have HLZ := Lib.hid (show LsZ wr (fun k => w.heap.size ≤ k) (.slice A5 i c5) l from by
      have := hlz.lsz (by rw [HN.out]; omega)
      rwa [HN.out] at this)
    clear hlz
    obtain ⟨v0, hb0, hg0, hzb⟩ := HBK.out.still HTR.out
    obtain ⟨A, m, c, vs, rfl, hrw, hvl, hvg, hcn, hmc, hiz⟩ := hg0
    have hml := hrw.1
    rw [List.length_map, hvl] at hml
    have HML := Lib.hid hml
    have HVL := Lib.hid hvl
    have HFIT := Lib.hid (show Fit 1 (vs.map one1) from one1_fit fun v hv => by
      obtain ⟨j, hj⟩ := List.getElem?_of_mem hv
      have hjl := (List.getElem?_eq_some_iff.1 hj).1
      obtain ⟨A9, c9, e9, _⟩ := (hvg j v (gs[j]'(by omega)) hj (List.getElem?_eq_getElem _)).len
      exact ⟨A9, _, c9, e9⟩)
    have HT0 := Lib.hid ((Turn.refl nowhere wr).drew)
    have HRW := Lib.hid (hrw.still HT0.out)
    have HVG := Lib.hid (fun (j : Nat) (u : Value) (L : Wl.Rec) (hu : vs[j]? = some u) (hL : gs[j]? = some L) => (hvg j u L hu hL).still HT0.out)
    have HLZd := Lib.hid (HLZ.out.still HT0.out)
    have HB0 := Lib.hid (show Blk wr.drew b 32 #[.int .i64 (f : Int), .slice A m c] from hb0)
    have HCN := Lib.hid hcn
    have HTD := Lib.hid (HTR.out.trans HT0.out fun _ _ e => e)
    clear hb0 hrw hvl hvg hcn hmc hiz hml HT0 HLZ HOW
    go_upto_region 3 with fail
    refine wp_region_lit ?_
    refine nR (.int .i64 (i : Int)) (exec_move rfl rfl) ?_;simp only [zz];refine nR (.slice A0 i c0) (exec_move rfl rfl) ?_;simp only [zz];refine nR (.int .i64 (i : Int)) (gx_len rfl rfl Tryd.underlying33) ?_;simp only [zz];refine nR (.bool false) (ix_lss rfl rfl rfl (decide_eq_false y3)) ?_;simp only [zz]
    go_upto_region 6 with fail
    refine wp_region_alw (fun W => Blk W b 32 #[.int .i64 (f : Int), .slice A m c]) (by kernel_rfl) ?_
    have hS0 := HB0.out
    generalize wr.drew = wd at *
    refine alw_take (i := 0) (v := .pointer (some ⟨b, 0, none⟩)) rfl (by kernel_rfl) (by kernel_rfl) (fun _ _ _ h => h) (.inl ⟨by rfl, fun W hW => exec_move rfl rfl⟩) hS0 ?_
    simp only [zz]
    refine alw_take (i := 1) (v := .pointer (some ⟨b, 0, none⟩)) rfl (by kernel_rfl) (by kernel_rfl) (fun _ _ _ h => h) (.inl ⟨by rfl, fun W hW => exec_nil rfl rfl⟩) hS0 ?_
    simp only [zz]
    refine alw_take (i := 2) (v := .pointer (some ⟨b, 0, none⟩)) rfl (by kernel_rfl) (by kernel_rfl) (fun _ _ _ h => h) (.inl ⟨by rfl, fun W hW => exec_field (off := 0) (d := 0) rfl rfl (by kernel_rfl)⟩) hS0 ?_
    simp only [zz]
    refine alw_take (i := 3) (v := .int .i64 (f : Int)) rfl (by kernel_rfl) (by kernel_rfl) (fun _ _ _ h => h) (.inl ⟨by rfl, fun W hW => exec_load1 rfl rfl (by kernel_rfl) (hW.cell 0)⟩) hS0 ?_
    simp only [zz]
    refine alw_take (i := 5) (v := .pointer (some ⟨b, 0, none⟩)) rfl (by kernel_rfl) (by kernel_rfl) (fun _ _ _ h => h) (.inl ⟨by rfl, fun W hW => exec_move rfl rfl⟩) hS0 ?_
    simp only [zz]
    refine alw_take (i := 6) (v := .pointer (some ⟨b, 0, none⟩)) rfl (by kernel_rfl) (by kernel_rfl) (fun _ _ _ h => h) (.inl ⟨by rfl, fun W hW => exec_nil rfl rfl⟩) hS0 ?_
    simp only [zz]
    refine alw_take (i := 7) (v := .pointer (some ⟨b, 1, none⟩)) rfl (by kernel_rfl) (by kernel_rfl) (fun _ _ _ h => h) (.inl ⟨by rfl, fun W hW => exec_field (off := 0) (d := 1) rfl rfl (by kernel_rfl)⟩) hS0 ?_
    simp only [zz]
    refine alw_take (i := 8) (v := .slice A m c) rfl (by kernel_rfl) (by kernel_rfl) (fun _ _ _ h => h) (.inl ⟨by rfl, fun W hW => exec_load1 rfl rfl (by kernel_rfl) (hW.cell 1)⟩) hS0 ?_
    simp only [zz]
    refine alw_take (i := 10) (v := .slice A5 i c5) rfl (by kernel_rfl) (by kernel_rfl) (fun _ _ _ h => h) (.inl ⟨by rfl, fun W hW => exec_move rfl rfl⟩) hS0 ?_
    simp only [zz]
    refine alw_two (i := 4) (j := 11) (by kernel_rfl) rfl rfl rfl rfl ?_ ?_
    · intro K1 HK1
      refine wp_run (bx_slice0 rfl (build0_G3 wd)) ?_
      refine HK1.out _ _ ⟨HB0.out.turn ((Turn.refl nowhere wd).alloc (.cells #[] 33)) (fun e => e), ?_⟩
      clear HK1
      try simp only [zz]
      have HE1 := Lib.hid ((Turn.refl nowhere wd).alloc (.cells #[] 33))
      have HEO := Lib.hid (show Orw (wd.alloc (.cells #[] 33)) wd.heap.size 33 1 (.slice (some ⟨wd.heap.size, 0, none⟩) 0 0) [] from ⟨Fit.nil 1, World.ownsRow_made wd #[] 0 (Nat.le_refl _) (by unfold maxLen; omega) (by simp)⟩)
      refine alw_two (i := 9) (j := 11) (by kernel_rfl) rfl rfl rfl rfl ?_ ?_
      · obtain ⟨A8, c8, w8, hr8, ho8, ht8⟩ := orw_more elmG8 (ty := 30) (W1 := wd) (c := c) HEO.out HE1.out (HRW.out.still HE1.out) HFIT.out HCN.out (by simp; have := HG.out; have := HML.out; omega)
        simp only [List.length_nil, Nat.zero_add, List.nil_append] at hr8 ho8
        intro K1 HK1
        refine wp_run (exec_append rfl rfl rfl hr8) ?_
        refine HK1.out _ _ ⟨HB0.out.turn ht8 (fun e => e), ?_⟩
        clear HK1
        try simp only [zz]
        have hal := ht8.alloc (.cells #[.slice A5 i c5] 33)
        refine alw_step (i := 11) (by kernel_rfl) rfl rfl ?_
        intro K1 HK1
        refine wp_run (exec_buildSlice1 rfl rfl (build_one elmG8 (one1 (.slice A5 i c5)) rfl (by decide) _ rfl w8)) ?_
        refine HK1.out _ _ ⟨HB0.out.turn hal (fun e => e), ?_⟩
        clear HK1
        try simp only [zz]
        obtain ⟨A9, c9, w9, hr9, ho9, ht9⟩ := orw_add elmG8 (ty := 30) (W1 := wd) ho8 ht8 (one1 (.slice A5 i c5)) rfl (fun u hu => by
          obtain rfl : u = .slice A5 i c5 := by simpa [one1] using hu
          rfl) (by rw [List.length_map, HVL.out, HML.out]; have := HG.out; have := HML.out; omega)
        rw [List.length_map, HVL.out, HML.out] at hr9 ho9
        have HRX := Lib.hid (show Orw w9 wd.heap.size 33 1 (.slice A9 (m + 1) c9) ((vs ++ [Value.slice A5 i c5]).map one1) from by rw [List.map_append]; exact ho9)
        have HTX := Lib.hid ht9
        refine alw_step (i := 12) (by kernel_rfl) rfl rfl ?_
        intro K1 HK1
        refine wp_run (exec_append rfl rfl rfl hr9) ?_
        refine HK1.out _ _ ⟨HB0.out.turn ht9 (fun e => e), ?_⟩
        clear HK1
        try simp only [zz]
        have hs8 := HB0.out.turn HTX.out (fun e => e)
        refine alw_take (i := 13) (v := .agg #[.int .i64 (f : Int), .slice A9 (m + 1) c9]) rfl (by kernel_rfl) (by kernel_rfl) (fun _ _ _ h => h) (.inl ⟨by rfl, fun W hW => gx_build2 rfl rfl rfl (build_bk _ _ _ _ W)⟩) hs8 ?_
        simp only [zz]
        have hbn := Blk.new w9 32 #[.int .i64 (f : Int), .slice A9 (m + 1) c9]
        have htb := (Turn.refl nowhere w9).alloc (.cells #[.int .i64 (f : Int), .slice A9 (m + 1) c9] 32)
        have hbx := box_bk (f : Int) A9 (m + 1) c9 w9
        obtain ⟨b9, hb9⟩ : ∃ z, z = w9.heap.size := ⟨_, rfl⟩
        have hsz9 := HTX.out.size
        rw [← hb9] at hbn hbx
        generalize w9.alloc (.cells #[.int .i64 (f : Int), .slice A9 (m + 1) c9] 32) = w10 at *
        have HFIN := Lib.hid (show WithP w f gs l Z (.returned (.pointer (some ⟨b9, 0, none⟩))) w10 from by
          refine ⟨b9, rfl, ⟨_, hbn, ?_, .inr (by have := HTD.out.size; omega)⟩, (HTD.out.trans HTX.out fun _ _ e => e).trans htb fun _ _ e => e⟩
          have h9 := HRX.out.less HTD.out.size
          have h8 : GsZ w9 (fun k => Z k ∨ w.heap.size ≤ k) (.slice A9 (m + 1) c9) (gs ++ [l]) := by
            rw [← HML.out] at h9 ⊢
            exact gsz_snoc h9 HVL.out (fun j u L hu hL => (HVG.out j u L hu hL).still HTX.out) (HLZd.out.still HTX.out) (by have := HG.out; omega)
          exact h8.turn htb fun _ _ _ e => e)
        have HBX := Lib.hid hbx
        have HB10 := Lib.hid ((HB0.out.turn HTX.out (fun e => e)).turn htb fun e => e)
        clear hbn htb hbx hs8 hb9 hsz9
        refine alw_step (i := 14) (by kernel_rfl) rfl rfl ?_
        intro K1 HK1
        refine wp_run (v := .pointer (some ⟨b9, 0, none⟩)) (gx_box rfl rfl HBX.out) ?_
        refine HK1.out _ _ ⟨HB10.out, ?_⟩
        clear HK1
        try simp only [zz]
        refine alw_take (i := 15) (v := .pointer (some ⟨b9, 0, none⟩)) rfl (by kernel_rfl) (by kernel_rfl) (fun _ _ _ h => h) (.inl ⟨by rfl, fun W hW => gx_assign rfl rfl⟩) HB10.out ?_
        simp only [zz]
        refine alw_done rfl ?_
        refine NoPanic.normal ?_
        try simp only [zz]
        go_wp2_with fail
        go_ret
        exact HFIN.out
      · have hal := HE1.out.alloc (.cells #[.slice A5 i c5] 33)
        intro K1 HK1
        refine wp_run (exec_buildSlice1 rfl rfl (build_one elmG8 (one1 (.slice A5 i c5)) rfl (by decide) _ rfl (wd.alloc (.cells #[] 33)))) ?_
        refine HK1.out _ _ ⟨HB0.out.turn hal (fun e => e), ?_⟩
        clear HK1
        try simp only [zz]
        have hro := (rws_one (w := wd.alloc (.cells #[] 33)) (r := one1 (.slice A5 i c5)) (et := 33) (k := 1) rfl fun _ => trivial)
        have heo := (HEO.out.still ((Turn.refl nowhere (wd.alloc (.cells #[] 33))).alloc (.cells #[.slice A5 i c5] 33)))
        refine alw_step (i := 9) (by kernel_rfl) rfl rfl ?_
        obtain ⟨A8, c8, w8, hr8, ho8, hg8, _⟩ := orw_grow elmG8 (ty := 30) (c := c) heo (by have := hal.size; omega) (HRW.out.still hal) HFIT.out HCN.out (by simp; have := HG.out; have := HML.out; omega)
        simp only [List.length_nil, Nat.zero_add, List.nil_append] at hr8 ho8
        have ht8 := hal.grown hg8 fun g e hg => by
          have := (heo.lt e).1
          omega
        have hro8 := hro.turn ((Turn.refl (fun k => (Value.slice (some ⟨wd.heap.size, 0, none⟩) 0 0).ownBlock = some k) _).grown hg8 fun g e _ => e) fun b2 off s e _ _ hk => by
          cases e
          have h7 := Option.some.inj (show some wd.heap.size = some (wd.alloc (.cells #[] 33)).heap.size from hk)
          simp at h7
        intro K1 HK1
        refine wp_run (exec_append rfl rfl rfl hr8) ?_
        refine HK1.out _ _ ⟨HB0.out.turn ht8 (fun e => e), ?_⟩
        clear HK1
        try simp only [zz]
        obtain ⟨A9, c9, w9, hr9, ho9, ht9⟩ := orw_more elmG8 (ty := 30) (W1 := wd) (c := 1) ho8 ht8 hro8 (Fit.one rfl fun u hu => by
          obtain rfl : u = .slice A5 i c5 := by simpa [one1] using hu
          rfl) (fun e => by cases e) (by rw [List.length_map, HVL.out, HML.out]; have := HG.out; have := HML.out; omega)
        rw [List.length_map, HVL.out, HML.out] at hr9 ho9
        have HRX := Lib.hid (show Orw w9 wd.heap.size 33 1 (.slice A9 (m + 1) c9) ((vs ++ [Value.slice A5 i c5]).map one1) from by rw [List.map_append]; exact ho9)
        have HTX := Lib.hid ht9
        refine alw_step (i := 12) (by kernel_rfl) rfl rfl ?_
        intro K1 HK1
        refine wp_run (exec_append rfl rfl rfl hr9) ?_
        refine HK1.out _ _ ⟨HB0.out.turn ht9 (fun e => e), ?_⟩
        clear HK1
        try simp only [zz]
        have hs8 := HB0.out.turn HTX.out (fun e => e)
        refine alw_take (i := 13) (v := .agg #[.int .i64 (f : Int), .slice A9 (m + 1) c9]) rfl (by kernel_rfl) (by kernel_rfl) (fun _ _ _ h => h) (.inl ⟨by rfl, fun W hW => gx_build2 rfl rfl rfl (build_bk _ _ _ _ W)⟩) hs8 ?_
        simp only [zz]
        have hbn := Blk.new w9 32 #[.int .i64 (f : Int), .slice A9 (m + 1) c9]
        have htb := (Turn.refl nowhere w9).alloc (.cells #[.int .i64 (f : Int), .slice A9 (m + 1) c9] 32)
        have hbx := box_bk (f : Int) A9 (m + 1) c9 w9
        obtain ⟨b9, hb9⟩ : ∃ z, z = w9.heap.size := ⟨_, rfl⟩
        have hsz9 := HTX.out.size
        rw [← hb9] at hbn hbx
        generalize w9.alloc (.cells #[.int .i64 (f : Int), .slice A9 (m + 1) c9] 32) = w10 at *
        have HFIN := Lib.hid (show WithP w f gs l Z (.returned (.pointer (some ⟨b9, 0, none⟩))) w10 from by
          refine ⟨b9, rfl, ⟨_, hbn, ?_, .inr (by have := HTD.out.size; omega)⟩, (HTD.out.trans HTX.out fun _ _ e => e).trans htb fun _ _ e => e⟩
          have h9 := HRX.out.less HTD.out.size
          have h8 : GsZ w9 (fun k => Z k ∨ w.heap.size ≤ k) (.slice A9 (m + 1) c9) (gs ++ [l]) := by
            rw [← HML.out] at h9 ⊢
            exact gsz_snoc h9 HVL.out (fun j u L hu hL => (HVG.out j u L hu hL).still HTX.out) (HLZd.out.still HTX.out) (by have := HG.out; omega)
          exact h8.turn htb fun _ _ _ e => e)
        have HBX := Lib.hid hbx
        have HB10 := Lib.hid ((HB0.out.turn HTX.out (fun e => e)).turn htb fun e => e)
        clear hbn htb hbx hs8 hb9 hsz9
        refine alw_step (i := 14) (by kernel_rfl) rfl rfl ?_
        intro K1 HK1
        refine wp_run (v := .pointer (some ⟨b9, 0, none⟩)) (gx_box rfl rfl HBX.out) ?_
        refine HK1.out _ _ ⟨HB10.out, ?_⟩
        clear HK1
        try simp only [zz]
        refine alw_take (i := 15) (v := .pointer (some ⟨b9, 0, none⟩)) rfl (by kernel_rfl) (by kernel_rfl) (fun _ _ _ h => h) (.inl ⟨by rfl, fun W hW => gx_assign rfl rfl⟩) HB10.out ?_
        simp only [zz]
        refine alw_done rfl ?_
        refine NoPanic.normal ?_
        try simp only [zz]
        go_wp2_with fail
        go_ret
        exact HFIN.out
    · have hal1 := (Turn.refl nowhere wd).alloc (.cells #[.slice A5 i c5] 33)
      intro K1 HK1
      refine wp_run (exec_buildSlice1 rfl rfl (build_one elmG8 (one1 (.slice A5 i c5)) rfl (by decide) _ rfl wd)) ?_
      refine HK1.out _ _ ⟨HB0.out.turn hal1 (fun e => e), ?_⟩
      clear HK1
      try simp only [zz]
      have hal := hal1.alloc (.cells #[] 33)
      refine alw_step (i := 4) (by kernel_rfl) rfl rfl ?_
      intro K1 HK1
      refine wp_run (bx_slice0 rfl (build0_G3 (wd.alloc (.cells #[.slice A5 i c5] 33)))) ?_
      refine HK1.out _ _ ⟨HB0.out.turn hal (fun e => e), ?_⟩
      clear HK1
      try simp only [zz]
      have hro := ((rws_one (w := wd) (r := one1 (.slice A5 i c5)) (et := 33) (k := 1) rfl fun _ => trivial).still ((Turn.refl nowhere (wd.alloc (.cells #[.slice A5 i c5] 33))).alloc (.cells #[] 33)))
      have heo := (show Orw ((wd.alloc (.cells #[.slice A5 i c5] 33)).alloc (.cells #[] 33)) wd.heap.size 33 1 (.slice (some ⟨(wd.alloc (.cells #[.slice A5 i c5] 33)).heap.size, 0, none⟩) 0 0) [] from ⟨Fit.nil 1, World.ownsRow_made (wd.alloc (.cells #[.slice A5 i c5] 33)) #[] 0 (by simp) (by unfold maxLen; omega) (by simp)⟩)
      refine alw_step (i := 9) (by kernel_rfl) rfl rfl ?_
      obtain ⟨A8, c8, w8, hr8, ho8, hg8, _⟩ := orw_grow elmG8 (ty := 30) (c := c) heo (by have := hal.size; omega) (HRW.out.still hal) HFIT.out HCN.out (by simp; have := HG.out; have := HML.out; omega)
      simp only [List.length_nil, Nat.zero_add, List.nil_append] at hr8 ho8
      have ht8 := hal.grown hg8 fun g e hg => by
        have := (heo.lt e).1
        omega
      have hro8 := hro.turn ((Turn.refl (fun k => (Value.slice (some ⟨(wd.alloc (.cells #[.slice A5 i c5] 33)).heap.size, 0, none⟩) 0 0).ownBlock = some k) _).grown hg8 fun g e _ => e) fun b2 off s e _ _ hk => by
        cases e
        have h7 := Option.some.inj (show some (wd.alloc (.cells #[.slice A5 i c5] 33)).heap.size = some wd.heap.size from hk)
        simp at h7
      intro K1 HK1
      refine wp_run (exec_append rfl rfl rfl hr8) ?_
      refine HK1.out _ _ ⟨HB0.out.turn ht8 (fun e => e), ?_⟩
      clear HK1
      try simp only [zz]
      obtain ⟨A9, c9, w9, hr9, ho9, ht9⟩ := orw_more elmG8 (ty := 30) (W1 := wd) (c := 1) ho8 ht8 hro8 (Fit.one rfl fun u hu => by
        obtain rfl : u = .slice A5 i c5 := by simpa [one1] using hu
        rfl) (fun e => by cases e) (by rw [List.length_map, HVL.out, HML.out]; have := HG.out; have := HML.out; omega)
      rw [List.length_map, HVL.out, HML.out] at hr9 ho9
      have HRX := Lib.hid (show Orw w9 wd.heap.size 33 1 (.slice A9 (m + 1) c9) ((vs ++ [Value.slice A5 i c5]).map one1) from by rw [List.map_append]; exact ho9)
      have HTX := Lib.hid ht9
      refine alw_step (i := 12) (by kernel_rfl) rfl rfl ?_
      intro K1 HK1
      refine wp_run (exec_append rfl rfl rfl hr9) ?_
      refine HK1.out _ _ ⟨HB0.out.turn ht9 (fun e => e), ?_⟩
      clear HK1
      try simp only [zz]
      have hs8 := HB0.out.turn HTX.out (fun e => e)
      refine alw_take (i := 13) (v := .agg #[.int .i64 (f : Int), .slice A9 (m + 1) c9]) rfl (by kernel_rfl) (by kernel_rfl) (fun _ _ _ h => h) (.inl ⟨by rfl, fun W hW => gx_build2 rfl rfl rfl (build_bk _ _ _ _ W)⟩) hs8 ?_
      simp only [zz]
      have hbn := Blk.new w9 32 #[.int .i64 (f : Int), .slice A9 (m + 1) c9]
      have htb := (Turn.refl nowhere w9).alloc (.cells #[.int .i64 (f : Int), .slice A9 (m + 1) c9] 32)
      have hbx := box_bk (f : Int) A9 (m + 1) c9 w9
      obtain ⟨b9, hb9⟩ : ∃ z, z = w9.heap.size := ⟨_, rfl⟩
      have hsz9 := HTX.out.size
      rw [← hb9] at hbn hbx
      generalize w9.alloc (.cells #[.int .i64 (f : Int), .slice A9 (m + 1) c9] 32) = w10 at *
      have HFIN := Lib.hid (show WithP w f gs l Z (.returned (.pointer (some ⟨b9, 0, none⟩))) w10 from by
        refine ⟨b9, rfl, ⟨_, hbn, ?_, .inr (by have := HTD.out.size; omega)⟩, (HTD.out.trans HTX.out fun _ _ e => e).trans htb fun _ _ e => e⟩
        have h9 := HRX.out.less HTD.out.size
        have h8 : GsZ w9 (fun k => Z k ∨ w.heap.size ≤ k) (.slice A9 (m + 1) c9) (gs ++ [l]) := by
          rw [← HML.out] at h9 ⊢
          exact gsz_snoc h9 HVL.out (fun j u L hu hL => (HVG.out j u L hu hL).still HTX.out) (HLZd.out.still HTX.out) (by have := HG.out; omega)
        exact h8.turn htb fun _ _ _ e => e)
      have HBX := Lib.hid hbx
      have HB10 := Lib.hid ((HB0.out.turn HTX.out (fun e => e)).turn htb fun e => e)
      clear hbn htb hbx hs8 hb9 hsz9
      refine alw_step (i := 14) (by kernel_rfl) rfl rfl ?_
      intro K1 HK1
      refine wp_run (v := .pointer (some ⟨b9, 0, none⟩)) (gx_box rfl rfl HBX.out) ?_
      refine HK1.out _ _ ⟨HB10.out, ?_⟩
      clear HK1
      try simp only [zz]
      refine alw_take (i := 15) (v := .pointer (some ⟨b9, 0, none⟩)) rfl (by kernel_rfl) (by kernel_rfl) (fun _ _ _ h => h) (.inl ⟨by rfl, fun W hW => gx_assign rfl rfl⟩) HB10.out ?_
      simp only [zz]
      refine alw_done rfl ?_
      refine NoPanic.normal ?_
      try simp only [zz]
      go_wp2_with fail
      go_ret
      exact HFIN.out
end Go.Proofs.YtelipeoilcepbaaDoor
