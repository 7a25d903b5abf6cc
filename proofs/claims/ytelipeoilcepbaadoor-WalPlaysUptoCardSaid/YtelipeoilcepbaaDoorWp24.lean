/-
  Texts in one file: WmL WmE. Conditions: the tables and the errors read as the program's text lays them.
-/
import Derived.Test.YtelipeoilcepbaaDoorWp0
import Derived.Test.YtelipeoilcepbaaDoorWp23
import Derived.Shelf.SlSortCmp.NoneTotal
import Derived.Test.YtelipeoilcepbaaDoorWp18
import Derived.Test.YtelipeoilcepbaaDoorWp12
namespace Go.Proofs.YtelipeoilcepbaaDoor
open Go.RowKit
open Wl (B8)
set_option linter.unusedVariables false
set_option linter.unusedSimpArgs false
set_option maxRecDepth 20000
open Wl (Gp live chain)
theorem good_unp {D : Wl.Disk} {S f : Nat} {L : List Wl.Rec} {gs : List Gp} (h : Wl.Good Crc.sumN D S f L gs) {sg : Nat} (hs : sg < S) : ∀ g ∈ live D (2 + 64 * sg) f, Wl.unpack Crc.sumN g.s g.t ≠ none := by
  intro g hg e
  have h1 : live D (2 + 64 * sg) f = gs.filter fun g => decide (Wl.beg sg ≤ g.P ∧ g.P < Wl.beg sg + 64) := h.liv sg hs
  rw [h1] at hg
  obtain ⟨k, hk⟩ := List.mem_iff_getElem?.1 (List.mem_filter.1 hg).1
  have hk2 : k < L.length := by
    have := (List.getElem?_eq_some_iff.1 hk).1
    have := h.len
    omega
  have h2 := h.unp k g L[k] hk (List.getElem?_eq_getElem hk2)
  rw [e] at h2
  cases h2
theorem sort_any {w : World} {B n c : Nat} {A : Option Addr} {xs : List Gp} (h : Orw w B 107 3 (.slice A n c) (xs.map rowG)) (hn : xs.length < 4611686018427387904) :
    Calls Tryd.prog 58 #[.slice A n c, .func (.func 59) #[] #[]] w fun e w' => e = .returned (.tuple #[]) ∧ ∃ ys : List Gp, ys.Perm xs ∧ ys.Pairwise (fun x y => x.s.no ≤ y.s.no) ∧ Orw w' B 107 3 (.slice A n c) (ys.map rowG) ∧ Turn (fun b => (Value.slice A n c).ownBlock = some b) w w' := by
  obtain ⟨A', c', e, _⟩ := h.form
  injection e with e1 e2 e3
  subst e1 e3
  rw [List.length_map] at e2
  subst e2
  rcases xs with _ | ⟨x, xs⟩
  · refine (show Calls Tryd.prog 58 #[.slice A 0 c, .func (.func 59) #[] #[]] w _ from AnyF.slices_SortFunc_none Tryd.sortG A c _ w).mono ?_
    rintro e w' ⟨rfl, rfl⟩
    exact ⟨rfl, [], List.Perm.refl _, List.Pairwise.nil, h, Turn.refl _ _⟩
  · obtain ⟨b, c2, e, _⟩ := h.some_ (by simp)
    injection e with e1 e2 e3
    subst e1 e3
    have eg : ∀ args w, (callFunc 59 args).run Tryd.prog w = .ok (.enter 59 args) w := enters_of Tryd.func59 (by kernel_rfl) rfl
    have hb : b < w.heap.size := (h.lt (b := b) rfl).2
    have hcon := AnyQ.slices_SortFunc Tryd.sortG 3 Tryd.isAgg107 Tryd.sizeOf107 rowG (fun _ => rfl) rowG_one (fun x y : Gp => Lib.compareInt (x.s.no : Int) (y.s.no : Int)) swoNo 59 #[] b 0 c (x :: xs).toArray w eg (fun _ _ _ _ x y => fcmp_walk x y _) (orw_holds (fun _ => rfl) h) hb (by simpa using hn)
    change Calls Tryd.prog 58 _ _ _ at hcon
    rw [List.size_toArray] at hcon
    refine hcon.mono ?_
    rintro e w' ⟨rfl, d, m, os, hp, hs, rfl⟩
    obtain ⟨h1, h2⟩ := perm_of hp
    refine ⟨rfl, d.toList, h2, ?_, orw_sorted (enc := rowG) (k := 3) (xs := x :: xs) (fun _ => rfl) rowG_one h h1 os, (sortW_turn (enc := rowG) (k := 3) w b m d os).mono fun q _ e => ?_⟩
    · rw [List.pairwise_iff_getElem]
      intro i j hi hj hij
      have hj2 : j < d.size := by simpa using hj
      have hi2 : i < d.size := by simpa using hi
      have h3 := hs i j (Nat.zero_le _) hij (by omega)
      rw [ltNo, getElem!_pos d j hj2, getElem!_pos d i hi2] at h3
      simp only [Array.getElem_toList]
      simpa using h3
    · have e : q = b := e
      rw [e]
      rfl
theorem size_grp : (Tryd.prog.info? 107).map (·.size) = some 3 := by kernel_rfl
theorem zero_gpF (w : World) : (zeroValue 107).run Tryd.prog w = .ok (.agg #[.int .i64 0, .int .i64 0, .int .i64 0]) w := by kernel_rfl
def FindP (w : World) (x p i : Nat) (v : WalV) (vP vH : Value) (gs : List Gp) (on : Bool) (r : Ending) (w' : World) : Prop :=
  (on = false ∧ r = .returned (.int .i64 2) ∧ WalB w' x p i v vP vH ∧ Turn nowhere w w') ∨
  (on = true ∧ r = .returned (.int .i64 0) ∧ ∃ vP', WalB w' x p i (v.adds gs) vP' vH ∧ Turn (WalG x vP vH) w w' ∧ ∀ b, vP'.ownBlock = some b → vP.ownBlock = some b ∨ w.heap.size ≤ b)
set_option maxRecDepth 20000 in
set_option maxHeartbeats 4000000 in
theorem find_walk {w : World} {x p i : Nat} {v : WalV} {vP vH : Value} (h : WalB w x p i v vP vH) {F : Nat → Prop} {s : AP} {K : Nat} (hp : PlantAt w p F s K) (htab : Tab w) (d : AD) (hd : s.ds[i]? = some d) {L : List Wl.Rec} {gs : List Gp} (hg : Wl.Good Crc.sumN (dkD d) v.held.length v.first L gs) (hE : ((2 + 64 * v.held.length : Nat) : Int) ≤ d.n) (hpl : v.places = []) (hh : ∀ sg, v.held.getD sg 0 = 0) (hf : v.first ≤ 1099511627776) (h0 : 0 < v.held.length) :
    Calls Tryd.prog 38 #[.pointer (some ⟨x, 0, none⟩)] w fun r w' => FindP w x p i v vP vH gs s.on r w' := by
  obtain ⟨AH, cH, eH⟩ := h.he.form
  subst eH
  have H := Lib.hid h
  have HPL := Lib.hid hp
  have HTAB := Lib.hid htab
  have HD := Lib.hid hd
  have HGD := Lib.hid hg
  have HEN := Lib.hid hE
  have HP0 := Lib.hid hpl
  have HH0 := Lib.hid hh
  have HFI := Lib.hid hf
  have HS0 := Lib.hid h0
  have yS : v.held.length ≤ 1023 := by have := hp.dn hd; omega
  obtain ⟨S, hS⟩ : ∃ S, S = v.held.length := ⟨_, rfl⟩
  have HSS := Lib.hid hS
  have yS2 : S ≤ 1023 := by omega
  clear h hp htab hd hg hE hpl hh hf h0
  go_enter Tryd.func38, Tryd.ntmps38
  go_upto_region 0 with fail
  refine wp_region_lit ?_
  refine nR (.int .i64 0) (gx_assign rfl rfl) ?_;simp only [zz]
  go_upto_region 1 with fail
  refine wp_region_lit ?_
  refine nR (.slice none 0 0) (gx_assign rfl rfl) ?_;simp only [zz]
  go_upto_region 2 with fail
  refine wp_region_lit ?_
  refine nR (.pointer (some ⟨x, 0, none⟩)) (exec_move rfl rfl) ?_;simp only [zz];refine nR (.pointer (some ⟨x, 0, none⟩)) (exec_nil rfl rfl) ?_;simp only [zz];refine nR (.pointer (some ⟨x, 7, none⟩)) (exec_field (off := 0) (d := 7) rfl rfl (by kernel_rfl)) ?_;simp only [zz];refine nR (.slice AH v.held.length cH) (exec_load1 rfl rfl (by kernel_rfl) (H.out.blk.cell 7)) ?_;simp only [zz];refine nR (.int .i64 (v.held.length : Int)) (gx_len rfl rfl Tryd.underlying34) ?_;simp only [zz];refine nR (.int .i64 0) (exec_move rfl rfl) ?_;simp only [zz]
  rw [← HSS.out]
  go_wp2_with fail
  go_loopg [3, 14] S (fun gk fv iv wr => ∃ j : Nat, iv = .int .i64 (j : Int) ∧ j + gk = S ∧ Orw wr w.heap.size 107 3 fv ((foundTo (dkD d) v.first j).map rowG) ∧ Turn nowhere w wr ∧ (0 < j → s.on = true))
  case atStart => exact ⟨0, rfl, by omega, Orw.nil _ _ _ _, Turn.refl _ _, fun h => absurd h (Nat.lt_irrefl 0)⟩
  obtain ⟨j, rfl, hgk, hrow, htr, hon0⟩ := hrel
  have HON0 := Lib.hid hon0
  clear hon0
  have HGK := Lib.hid hgk
  obtain ⟨A3, c3, e3, _⟩ := hrow.form
  subst e3
  obtain ⟨n3, hn3⟩ : ∃ n, n = ((foundTo (dkD d) v.first j).map rowG).length := ⟨_, rfl⟩
  rw [← hn3] at hrow ⊢
  have HN3 := Lib.hid (show n3 = (foundTo (dkD d) v.first j).length from by rw [hn3, List.length_map])
  have HSH := Lib.hid (foundTo_short (dkD d) v.first j)
  have HROW := Lib.hid hrow
  have HTR := Lib.hid htr
  have HW := Lib.hid (H.out.still htr)
  clear hgk hrow htr hn3
  by_cases hlt : j < S
  · have HLT := Lib.hid hlt
    have yj : (j : Int) < (S : Int) := by omega
    have HUN := Lib.hid (good_unp HGD.out (sg := j) (by rw [← HSS.out]; exact hlt))
    clear hlt
    go_upto_region 3 with fail
    refine wp_region_lit ?_
    refine nR (.bool true) (ix_lss rfl rfl rfl (decide_eq_true yj)) ?_;simp only [zz]
    go_upto_region 4 with fail
    refine wp_region_lit ?_
    refine nR (.int .i64 (j : Int)) (exec_move rfl rfl) ?_;simp only [zz];refine nR (.int .i64 (j : Int)) (gx_assign rfl rfl) ?_;simp only [zz]
    go_upto_region 5 with fail
    refine wp_region_alw (fun W => Blk W x 64 (walC p i v vP (.slice AH v.held.length cH))) (by kernel_rfl) ?_
    have HSD := Lib.hid (show Blk wr.drew x 64 (walC p i v vP (.slice AH v.held.length cH)) from HW.out.blk.drew)
    have HTD := Lib.hid (HTR.out.trans (Turn.refl nowhere wr).drew fun _ _ e => e)
    have HROWD := Lib.hid (HROW.out.still (Turn.refl nowhere wr).drew)
    generalize wr.drew = wd at *
    refine alw_take (i := 0) (v := .pointer (some ⟨x, 0, none⟩)) rfl (by kernel_rfl) (by kernel_rfl) (fun _ _ _ h => h) (.inl ⟨by rfl, fun W hW => exec_move rfl rfl⟩) HSD.out ?_
    simp only [zz]
    refine alw_take (i := 1) (v := .pointer (some ⟨x, 0, none⟩)) rfl (by kernel_rfl) (by kernel_rfl) (fun _ _ _ h => h) (.inl ⟨by rfl, fun W hW => exec_nil rfl rfl⟩) HSD.out ?_
    simp only [zz]
    refine alw_take (i := 2) (v := .pointer (some ⟨x, 0, none⟩)) rfl (by kernel_rfl) (by kernel_rfl) (fun _ _ _ h => h) (.inl ⟨by rfl, fun W hW => exec_field (off := 0) (d := 0) rfl rfl (by kernel_rfl)⟩) HSD.out ?_
    simp only [zz]
    refine alw_take (i := 3) (v := .agg (dskV p (i : Int))) rfl (by kernel_rfl) (by kernel_rfl) (fun _ _ _ h => h) (.inl ⟨by rfl, fun W hW => gx_loads rfl rfl (wal_dsk hW) Tryd.underlying60 rfl (by rw [size_dsk]; rfl)⟩) HSD.out ?_
    simp only [zz]
    refine alw_take (i := 4) (v := .int .i64 (j : Int)) rfl (by kernel_rfl) (by kernel_rfl) (fun _ _ _ h => h) (.inl ⟨by rfl, fun W hW => exec_move rfl rfl⟩) HSD.out ?_
    simp only [zz]
    refine alw_take (i := 5) (v := .pointer (some ⟨x, 0, none⟩)) rfl (by kernel_rfl) (by kernel_rfl) (fun _ _ _ h => h) (.inl ⟨by rfl, fun W hW => exec_move rfl rfl⟩) HSD.out ?_
    simp only [zz]
    refine alw_take (i := 6) (v := .pointer (some ⟨x, 0, none⟩)) rfl (by kernel_rfl) (by kernel_rfl) (fun _ _ _ h => h) (.inl ⟨by rfl, fun W hW => exec_nil rfl rfl⟩) HSD.out ?_
    simp only [zz]
    refine alw_take (i := 7) (v := .pointer (some ⟨x, 2, none⟩)) rfl (by kernel_rfl) (by kernel_rfl) (fun _ _ _ h => h) (.inl ⟨by rfl, fun W hW => exec_field (off := 0) (d := 2) rfl rfl (by kernel_rfl)⟩) HSD.out ?_
    simp only [zz]
    refine alw_take (i := 8) (v := .pointer (some ⟨x, 4, none⟩)) rfl (by kernel_rfl) (by kernel_rfl) (fun _ _ _ h => h) (.inl ⟨by rfl, fun W hW => exec_field (off := 2) (d := 2) rfl rfl (by kernel_rfl)⟩) HSD.out ?_
    simp only [zz]
    refine alw_take (i := 9) (v := .int .i64 (v.first : Int)) rfl (by kernel_rfl) (by kernel_rfl) (fun _ _ _ h => h) (.inl ⟨by rfl, fun W hW => exec_load1 rfl rfl (by kernel_rfl) (hW.cell 4)⟩) HSD.out ?_
    simp only [zz]
    refine alw_step (i := 10) (by kernel_rfl) rfl rfl ?_
    intro K1 HK1
    go_wp2_with fail
    refine (groups_walk (HPL.out.turn HTD.out fun _ _ e => e) (tab_still HTAB.out HTD.out) i d HD.out j v.first (by have := HEN.out; have := HLT.out; have := HSS.out; omega) HFI.out).mono ?_
    rintro e w3 ⟨ht, hcase⟩
    have HT3 := Lib.hid (HTD.out.trans ht fun _ _ e => e)
    have HS3 := Lib.hid (HSD.out.turn ht fun e => e)
    have HROW3 := Lib.hid (HROWD.out.still ht)
    have HSZ3 := Lib.hid ht.size
    clear ht HROWD HSD HTD
    rcases hcase with ⟨hoff, rfl⟩ | ⟨hon, hbad, rfl⟩ | ⟨hon, hun, v3, rfl, hown⟩
    · refine HK1.out _ _ ⟨HS3.out, ?_⟩
      clear HK1
      try simp only [zz]
      refine alw_take (i := 11) (v := .tuple #[.slice none 0 0, .int .i64 2]) rfl (by kernel_rfl) (by kernel_rfl) (fun _ _ _ h => h) (.inl ⟨by rfl, fun W hW => exec_move rfl rfl⟩) HS3.out ?_
      simp only [zz]
      refine alw_take (i := 12) (v := .slice none 0 0) rfl (by kernel_rfl) (by kernel_rfl) (fun _ _ _ h => h) (.inl ⟨by rfl, fun W hW => ix_extract rfl rfl rfl⟩) HS3.out ?_
      simp only [zz]
      refine alw_take (i := 13) (v := .int .i64 2) rfl (by kernel_rfl) (by kernel_rfl) (fun _ _ _ h => h) (.inl ⟨by rfl, fun W hW => ix_extract rfl rfl rfl⟩) HS3.out ?_
      simp only [zz]
      refine alw_take (i := 14) (v := .slice none 0 0) rfl (by kernel_rfl) (by kernel_rfl) (fun _ _ _ h => h) (.inl ⟨by rfl, fun W hW => gx_assign rfl rfl⟩) HS3.out ?_
      simp only [zz]
      refine alw_take (i := 15) (v := .int .i64 2) rfl (by kernel_rfl) (by kernel_rfl) (fun _ _ _ h => h) (.inl ⟨by rfl, fun W hW => gx_assign rfl rfl⟩) HS3.out ?_
      simp only [zz]
      refine alw_done rfl ?_
      refine NoPanic.normal ?_
      try simp only [zz]
      go_upto_region 6 with fail
      refine wp_region_lit ?_
      refine nR (.int .i64 2) (exec_move rfl rfl) ?_;simp only [zz];refine nR (.bool true) (ix_neq rfl rfl rfl (by decide)) ?_;simp only [zz]
      go_upto_region 7 with fail
      refine wp_region_lit ?_
      refine nR (.int .i64 2) (exec_move rfl rfl) ?_;simp only [zz];refine nR (.int .i64 2) (gx_assign rfl rfl) ?_;simp only [zz]
      go_wp2_with fail
      go_ret
      exact .inl ⟨hoff, rfl, H.out.still HT3.out, HT3.out⟩
    · obtain ⟨g, hg, hn⟩ := hbad
      exact absurd hn (HUN.out g hg)
    · have HON := Lib.hid hon
      obtain ⟨A4, c4, e4, _, _, hz4, _⟩ := hown.form
      subst e4
      rw [List.length_map] at hown ⊢
      obtain ⟨n4, hn4⟩ : ∃ n, n = (live (dkD d) (2 + 64 * j) v.first).length := ⟨_, rfl⟩
      rw [← hn4] at hown ⊢
      have HN4 := Lib.hid hn4
      have HL4 := Lib.hid (live_short (dkD d) (2 + 64 * j) v.first)
      have HOWN := Lib.hid hown
      have HZ4 := Lib.hid hz4
      clear hon hown hz4 hn4 hun
      refine HK1.out _ _ ⟨HS3.out, ?_⟩
      clear HK1
      try simp only [zz]
      refine alw_take (i := 11) (v := .tuple #[.slice A4 n4 c4, .int .i64 0]) rfl (by kernel_rfl) (by kernel_rfl) (fun _ _ _ h => h) (.inl ⟨by rfl, fun W hW => exec_move rfl rfl⟩) HS3.out ?_
      simp only [zz]
      refine alw_take (i := 12) (v := .slice A4 n4 c4) rfl (by kernel_rfl) (by kernel_rfl) (fun _ _ _ h => h) (.inl ⟨by rfl, fun W hW => ix_extract rfl rfl rfl⟩) HS3.out ?_
      simp only [zz]
      refine alw_take (i := 13) (v := .int .i64 0) rfl (by kernel_rfl) (by kernel_rfl) (fun _ _ _ h => h) (.inl ⟨by rfl, fun W hW => ix_extract rfl rfl rfl⟩) HS3.out ?_
      simp only [zz]
      refine alw_take (i := 14) (v := .slice A4 n4 c4) rfl (by kernel_rfl) (by kernel_rfl) (fun _ _ _ h => h) (.inl ⟨by rfl, fun W hW => gx_assign rfl rfl⟩) HS3.out ?_
      simp only [zz]
      refine alw_take (i := 15) (v := .int .i64 0) rfl (by kernel_rfl) (by kernel_rfl) (fun _ _ _ h => h) (.inl ⟨by rfl, fun W hW => gx_assign rfl rfl⟩) HS3.out ?_
      simp only [zz]
      refine alw_done rfl ?_
      refine NoPanic.normal ?_
      try simp only [zz]
      go_upto_region 6 with fail
      refine wp_region_lit ?_
      refine nR (.int .i64 0) (exec_move rfl rfl) ?_;simp only [zz];refine nR (.bool false) (ix_neq rfl rfl rfl (by decide)) ?_;simp only [zz]
      obtain ⟨A5, c5, w5, hap, hrow5, ht5⟩ := orw_more elmG (ty := 102) (c := c4) HROW3.out HT3.out (HOWN.out.rws (by rw [List.length_map]; have := HL4.out; omega) (by decide)) HOWN.out.1 HZ4.out (by rw [List.length_map, ← HN3.out, HN4.out]; have := HL4.out; have := HSH.out; have := HN3.out; have := HLT.out; omega)
      rw [List.length_map, ← HN3.out] at hap hrow5
      rw [← List.map_append, ← foundTo_succ] at hrow5
      have HAP := Lib.hid hap
      have HROW5 := Lib.hid hrow5
      have HT5 := Lib.hid ht5
      clear hap hrow5 ht5
      go_upto_region 8 with fail
      refine wp_region_lit ?_
      refine nR (.slice A3 n3 c3) (exec_move rfl rfl) ?_;simp only [zz];refine nR (.slice A4 n4 c4) (exec_move rfl rfl) ?_;simp only [zz];refine wpList_run (v := .slice A5 (n3 + n4) c5) (w' := w5) (wanted_none rfl) (exec_append rfl rfl rfl HAP.out) ?_;simp only [zz];refine nR (.slice A5 (n3 + n4) c5) (gx_assign rfl rfl) ?_;simp only [zz]
      go_upto_region 9 with fail
      refine wp_region_lit ?_
      refine nR (.int .i64 ((j + 1 : Nat) : Int)) (ix_add rfl rfl rfl (by omega) (by omega)) ?_;simp only [zz];refine nR (.int .i64 ((j + 1 : Nat) : Int)) (exec_move rfl rfl) ?_;simp only [zz]
      go_wp2_with fail
      go_roundg (gk - 1)
      case measure => have := HGK.out; have := HLT.out; omega
      case rel => exact ⟨j + 1, by go_num, by have := HGK.out; have := HLT.out; omega, HROW5.out, HT5.out, fun _ => HON.out⟩
  · have hjS : j = S := by have := HGK.out; omega
    subst hjS
    have yj : ¬ (j : Int) < (j : Int) := by omega
    clear hlt
    go_upto_region 3 with fail
    refine wp_region_lit ?_
    refine nR (.bool false) (ix_lss rfl rfl rfl (decide_eq_false yj)) ?_;simp only [zz]
    go_upto_region 10 with fail
    refine wp_region_lit ?_
    refine nR (.slice A3 n3 c3) (exec_move rfl rfl) ?_;simp only [zz]
    have hso := sort_any HROW.out (by have := HSH.out; omega)
    refine wpList_op rfl fun K9 HK9 => ?_
    go_wp2_with fail
    refine (hso).mono ?_
    rintro e w5 ⟨rfl, ys, hperm, hpw, hrow5, ht5⟩
    refine HK9.out _ _ ?_
    clear HK9
    try simp only [zz]
    have hys : ys = gs := Wl.sort_one (hperm.trans (by rw [HSS.out]; exact HGD.out.found)) hpw HGD.out.sorted
    subst hys
    obtain ⟨n5, hn5⟩ : ∃ n, n = ys.length := ⟨_, rfl⟩
    have HN5 := Lib.hid hn5
    have HN35 := Lib.hid (show n3 = n5 from by rw [hn5, HN3.out, hperm.length_eq])
    have HSH5 := Lib.hid (show n3 ≤ 66495 from by have := HSH.out; have := HN3.out; omega)
    have HON := Lib.hid (HON0.out (by have := HS0.out; have := HSS.out; omega))
    have HT5 := Lib.hid (HTR.out.trans ht5 fun b hb e => by have := (HROW.out.lt e).1; omega)
    rw [HN35.out] at hrow5
    have HR5 := Lib.hid hrow5
    have HW5 := Lib.hid (HW.out.turn ht5 fun b hb e => by
      have h1 := (HROW.out.lt e).1
      have h2 : b < w.heap.size := by
        rcases hb with h3 | h3 | h3
        · rw [h3]; exact H.out.blk.lt
        · exact (H.out.pl.lt h3).1
        · exact (H.out.he.lt h3).1
      omega)
    rw [HN35.out]
    clear hso hrow5 ht5 hperm hpw HROW HTR HW HN3 HSH hn5
    go_upto_region 11 with fail
    refine wp_region_lit ?_
    refine nR (.slice A3 n5 c3) (exec_move rfl rfl) ?_;simp only [zz];refine nR (.int .i64 (n5 : Int)) (gx_len rfl rfl Tryd.underlying102) ?_;simp only [zz];refine nR (.int .i64 0) (exec_move rfl rfl) ?_;simp only [zz]
    go_wp2_with fail
    go_loopg [42] n5 (fun gk iv wr => ∃ (k : Nat) (vQ : Value), iv = .int .i64 (k : Int) ∧ k + gk = n5 ∧ WalB wr x p i (v.adds (ys.take k)) vQ (.slice AH v.held.length cH) ∧ (∀ b, vQ.ownBlock = some b → vP.ownBlock = some b ∨ w.heap.size ≤ b) ∧ Orw wr w.heap.size 107 3 (.slice A3 n5 c3) (ys.map rowG) ∧ Turn (WalG x vP (.slice AH v.held.length cH)) w wr)
    case atStart => exact ⟨0, vP, rfl, by omega, HW5.out, (fun b e => .inl e), HR5.out, HT5.out.mono fun _ _ e => False.elim e⟩
    obtain ⟨k, vQ, rfl, hgk, hw, hq, hrow, htr⟩ := hrel
    have HGK := Lib.hid hgk
    have HW := Lib.hid hw
    have HQ := Lib.hid hq
    have HROW := Lib.hid hrow
    have HTR := Lib.hid htr
    clear hgk hw hq hrow htr HW5 HR5 HT5
    have yn : (n5 : Int) ≤ 66495 := by have := HN35.out; have := HSH5.out; omega
    by_cases hlt : k < n5
    · have HLT := Lib.hid hlt
      have yk : (k : Int) < (n5 : Int) := by omega
      obtain ⟨g, hgk⟩ : ∃ g, ys[k]? = some g := ⟨_, List.getElem?_eq_getElem (show k < ys.length from by have := HN5.out; omega)⟩
      have HGKK := Lib.hid hgk
      obtain ⟨b3, c4, e3, _⟩ := HROW.out.some_ (by rw [List.length_map]; have := HN5.out; omega)
      injection e3 with e3 e4 e5
      subst e3 e5
      clear e4 hlt
      have HRG := Lib.hid (HROW.out.el (i := k) (r := rowG g) (by rw [List.getElem?_map, hgk]; rfl))
      have HNO := Lib.hid (HGD.out.no k g hgk)
      have HSE := Lib.hid (HGD.out.seg g (List.mem_of_getElem? hgk))
      have HAF := Lib.hid (adds_facts (ys.take k) v)
      have HTK := Lib.hid (show ys.take (k + 1) = ys.take k ++ [g] from by rw [List.take_add_one, hgk]; rfl)
      have HLK := Lib.hid (show (ys.take k).length = k from by rw [List.length_take]; have := HN5.out; have := HLT.out; omega)
      clear hgk
      go_upto_region 12 with fail
      refine wp_region_lit ?_
      refine nR (.bool true) (ix_lss rfl rfl rfl (decide_eq_true yk)) ?_;simp only [zz]
      go_upto_region 13 with fail
      refine wp_region_lit ?_
      refine nR (.pointer (some ⟨b3, k * 3, none⟩)) (gx_iaddr (i := k) (sz := 3) rfl rfl rfl Tryd.underlying102 size_grp HLT.out (by omega)) ?_;simp only [zz];refine nR (.agg (rowG g).toArray) (gx_loads rfl rfl HRG.out Tryd.underlying107 rfl (by rw [size_grp]; rfl)) ?_;simp only [zz]
      refine wpList_new 107 (.tmp 8) (.tmp 45) (rowG g).toArray rfl rfl (zero_gpF _) rfl rfl rfl rfl rfl rfl (by rw [size_grp]; rfl) (by simpa using rowG_one g) ?_
      intro w8 g8 hge hb8 ht8
      simp only [zz]
      have HB8 := Lib.hid hb8
      have HW8 := Lib.hid (HW.out.still ht8)
      have HROW8 := Lib.hid (HROW.out.still ht8)
      have HT8 := Lib.hid (HTR.out.trans ht8 fun _ _ e => False.elim e)
      clear hge hb8 ht8 HW HROW HTR HRG
      go_upto_region 14 with fail
      refine wp_region_alw (fun W => Blk W g8 107 (rowG g).toArray) (by kernel_rfl) ?_
      have HSD := Lib.hid (show Blk w8.drew g8 107 (rowG g).toArray from HB8.out.drew)
      have HWD := Lib.hid (HW8.out.still (Turn.refl nowhere w8).drew)
      have HROWD := Lib.hid (HROW8.out.still (Turn.refl nowhere w8).drew)
      have HTD := Lib.hid (HT8.out.trans (Turn.refl nowhere w8).drew fun _ _ e => False.elim e)
      generalize w8.drew = wd at *
      refine alw_take (i := 0) (v := .pointer (some ⟨g8, 0, none⟩)) rfl (by kernel_rfl) (by kernel_rfl) (fun _ _ _ h => h) (.inl ⟨by rfl, fun W hW => exec_field (off := 0) (d := 0) rfl rfl (by kernel_rfl)⟩) HSD.out ?_
      simp only [zz]
      refine alw_take (i := 1) (v := .int .i64 (g.s.no : Int)) rfl (by kernel_rfl) (by kernel_rfl) (fun _ _ _ h => h) (.inl ⟨by rfl, fun W hW => exec_load1 rfl rfl (by kernel_rfl) (hW.cell 0)⟩) HSD.out ?_
      simp only [zz]
      refine alw_take (i := 2) (v := .pointer (some ⟨x, 0, none⟩)) rfl (by kernel_rfl) (by kernel_rfl) (fun _ _ _ h => h) (.inl ⟨by rfl, fun W hW => exec_move rfl rfl⟩) HSD.out ?_
      simp only [zz]
      refine alw_step (i := 3) (by kernel_rfl) rfl rfl ?_
      intro K1 HK1
      go_wp2_with fail
      refine (Next_walk HWD.out (by rw [HAF.out.2.2.1]; exact HFI.out)).mono ?_
      rintro e w9 ⟨rfl, ht⟩
      rw [show (v.adds (ys.take k)).first + (v.adds (ys.take k)).places.length = g.s.no from by rw [HAF.out.2.2.1, HAF.out.1, HP0.out, HNO.out]; simp only [List.nil_append, List.length_map]; rw [HLK.out]]
      have HB9 := Lib.hid (HSD.out.turn ht fun e => e)
      have HW9 := Lib.hid (HWD.out.still ht)
      have HROW9 := Lib.hid (HROWD.out.still ht)
      have HT9 := Lib.hid (HTD.out.trans ht fun _ _ e => False.elim e)
      clear ht HSD HWD HROWD HTD HB8 HW8 HROW8 HT8
      refine HK1.out _ _ ⟨HB9.out, ?_⟩
      clear HK1
      try simp only [zz]
      refine alw_take (i := 4) (v := .bool false) rfl (by kernel_rfl) (by kernel_rfl) (fun _ _ _ h => h) (.inl ⟨by rfl, fun W hW => ix_neq rfl rfl rfl (decide_eq_false (not_not_intro rfl))⟩) HB9.out ?_
      simp only [zz]
      refine alw_done rfl ?_
      refine NoPanic.normal ?_
      try simp only [zz]
      go_upto_region 16 with fail
      refine wp_region_lit ?_
      refine nR (.pointer (some ⟨x, 0, none⟩)) (exec_move rfl rfl) ?_;simp only [zz];refine nR (.pointer (some ⟨g8, 1, none⟩)) (exec_field (off := 0) (d := 1) rfl rfl (by kernel_rfl)) ?_;simp only [zz];refine nR (.int .i64 (g.P : Int)) (exec_load1 rfl rfl (by kernel_rfl) (HB9.out.cell 1)) ?_;simp only [zz];refine nR (.pointer (some ⟨g8, 2, none⟩)) (exec_field (off := 0) (d := 2) rfl rfl (by kernel_rfl)) ?_;simp only [zz];refine nR (.int .i64 (g.s.cost : Int)) (exec_load1 rfl rfl (by kernel_rfl) (HB9.out.cell 2)) ?_;simp only [zz]
      obtain ⟨sg, hs1, hs2, hs3, hs4⟩ := HSE.out
      unfold Wl.beg at hs2 hs3
      have hsg : (g.P - 2) / 64 = sg := by omega
      have hadd := add_walk2 HW9.out g.P g.s.cost (by omega) (by omega) (by rw [hsg]; omega) (by rw [hsg, HAF.out.2.1]; exact hs1) (by
        have h1 := HAF.out.2.2.2.2.2 ((g.P - 2) / 64)
        rw [HH0.out, HLK.out] at h1
        have := HLT.out
        omega) (by
        rw [HAF.out.1, HP0.out]
        simp only [List.nil_append, List.length_map]
        rw [HLK.out]
        have := HLT.out
        omega)
      clear hs1 hs2 hs3 hs4 hsg
      refine wpList_op rfl fun K9 HK9 => ?_
      go_wp2_with fail
      refine (hadd).mono ?_
      rintro e w10 ⟨rfl, vR, hw, ht, hr⟩
      refine HK9.out _ _ ?_
      clear HK9
      try simp only [zz]
      rw [← adds_snoc, ← HTK.out] at hw
      have HW10 := Lib.hid hw
      have HR10 := Lib.hid (show ∀ b, vR.ownBlock = some b → vP.ownBlock = some b ∨ w.heap.size ≤ b from fun b e => by
        rcases hr b e with h1 | h1
        · exact HQ.out b h1
        · exact .inr (Nat.le_trans HT9.out.size h1))
      have HROW10 := Lib.hid (HROW9.out.turn ht fun b e hb => by
        have e : b3 = b := Option.some.inj e
        subst e
        rcases hb with h1 | h1 | h1
        · exact HROW9.out.ne HW9.out.blk (by decide) b3 rfl h1
        · obtain ⟨cur, hcur⟩ := (HW9.out.pl.lt h1).2
          exact HROW9.out.ne hcur (by decide) b3 rfl rfl
        · obtain ⟨cur, hcur⟩ := (HW9.out.he.lt h1).2
          exact HROW9.out.ne hcur (by decide) b3 rfl rfl)
      have HT10 := Lib.hid (HT9.out.trans ht fun b hb e => by
        rcases e with h1 | h1 | h1
        · exact .inl h1
        · rcases HQ.out b h1 with h2 | h2
          · exact .inr (.inl h2)
          · omega
        · exact .inr (.inr h1))
      clear hw ht hr hadd
      go_upto_region 17 with fail
      refine wp_region_lit ?_
      refine nR (.int .i64 ((k + 1 : Nat) : Int)) (ix_add rfl rfl rfl (by omega) (by omega)) ?_;simp only [zz];refine nR (.int .i64 ((k + 1 : Nat) : Int)) (exec_move rfl rfl) ?_;simp only [zz]
      go_wp2_with fail
      go_roundg (gk - 1)
      case measure => have := HGK.out; have := HLT.out; omega
      case rel => exact ⟨k + 1, vR, by go_num, by have := HGK.out; have := HLT.out; omega, HW10.out, HR10.out, HROW10.out, HT10.out⟩
    · have hk : k = n5 := by have := HGK.out; omega
      have yk : ¬ (k : Int) < (n5 : Int) := by omega
      have HTA := Lib.hid (show ys.take k = ys from by rw [hk, HN5.out]; exact List.take_length)
      clear hlt hk
      go_upto_region 12 with fail
      refine wp_region_lit ?_
      refine nR (.bool false) (ix_lss rfl rfl rfl (decide_eq_false yk)) ?_;simp only [zz]
      go_upto_region 18 with fail
      refine wp_region_lit ?_
      refine nR (.int .i64 0) (gx_assign rfl rfl) ?_;simp only [zz]
      go_wp2_with fail
      go_ret
      have hw := HW.out
      rw [HTA.out] at hw
      exact .inr ⟨HON.out, rfl, vQ, hw, HTR.out, HQ.out⟩
end Go.Proofs.YtelipeoilcepbaaDoor
namespace Go.Proofs.YtelipeoilcepbaaDoor
open Go.RowKit
open Wl (B8)
set_option linter.unusedVariables false
set_option linter.unusedSimpArgs false
set_option maxRecDepth 20000
open Wl (halfAt)
def flD (d : AD) : Wl.Disk := fun q => ((d.fl (q : Int)).getD zeroSec).1
theorem dk_dry {d : AD} (h : d.ws = []) : dkD d = flD d := by
  funext q
  unfold dkD AD.read reads
  rw [h]
  rfl
def Half2 (D N E : Wl.Disk) : Prop := ∀ q j, j < 2 → halfAt E q j = halfAt D q j ∨ halfAt E q j = halfAt N q j
def BootInv (D N : Wl.Disk) (i : Nat) (n : Int) (ds : List AD) : Prop := ∃ d, ds[i]? = some d ∧ d.n = n ∧ (∀ x ∈ d.ws, ∃ q : Nat, x.2.1 = (q : Int) ∧ x.2.2.1 = N q) ∧ Half2 D N (flD d)
theorem half_app {a b : B8} (ha : a.length = 32) {j : Nat} (hj : j < 2) (hb : b.length = 32) : ((a ++ b).drop (32 * j)).take 32 = if j = 0 then a else b := by
  match j, hj with
  | 0, _ => rw [Nat.mul_zero, List.drop_zero, if_pos rfl, List.take_append_of_le_length (by omega), List.take_of_length_le (by omega)]
  | 1, _ => rw [if_neg (by omega), List.drop_append, List.drop_eq_nil_of_le (by omega), List.nil_append, ha, Nat.mul_one, Nat.sub_self, List.drop_zero, List.take_of_length_le (by omega)]
theorem boot_half (k : Int) (old b : Sec) {j : Nat} (hj : j < 2) : ((bootSec k old b).1.drop (32 * j)).take 32 = (old.1.drop (32 * j)).take 32 ∨ ((bootSec k old b).1.drop (32 * j)).take 32 = (b.1.drop (32 * j)).take 32 := by
  have ho := old.2
  have hb := b.2
  unfold bootSec
  split
  · exact .inr rfl
  split
  · have h := half_app (a := b.1.take 32) (b := old.1.drop 32) (by rw [List.length_take]; omega) hj (by rw [List.length_drop]; omega)
    simp only [h]
    match j, hj with
    | 0, _ => exact .inr (by simp)
    | 1, _ => exact .inl (by simp [List.take_of_length_le, ho])
  split
  · have h := half_app (a := old.1.take 32) (b := b.1.drop 32) (by rw [List.length_take]; omega) hj (by rw [List.length_drop]; omega)
    simp only [h]
    match j, hj with
    | 0, _ => exact .inl (by simp)
    | 1, _ => exact .inr (by simp [List.take_of_length_le, hb])
  · exact .inl rfl
theorem BootInv.one {D N : Wl.Disk} {i : Nat} {n : Int} {ds : List AD} (h : BootInv D N i n ds) (k : Int) (j : Nat) : BootInv D N i n (bootOne k j ds) := by
  obtain ⟨d, h1, h2, h3, h4⟩ := h
  unfold bootOne
  cases hj : ds[j]? with
  | none => exact ⟨d, h1, h2, h3, h4⟩
  | some e =>
    cases hw : e.ws with
    | nil => simp only [hw]; exact ⟨d, h1, h2, h3, h4⟩
    | cons x r =>
      simp only [hw]
      by_cases hij : j = i
      · subst hij
        rw [h1] at hj
        injection hj with hj
        subst hj
        refine ⟨_, List.getElem?_set_self (List.getElem?_eq_some_iff.1 h1).1, h2, fun y hy => h3 y (by rw [hw]; exact List.mem_cons_of_mem _ hy), fun q t ht => ?_⟩
        obtain ⟨q0, e1, e2⟩ := h3 x (by rw [hw]; exact List.mem_cons_self ..)
        have h5 := h4 q t ht
        unfold halfAt flD bootFl at *
        by_cases hk : k = 0
        · simp only [hk, if_true]; exact h5
        · simp only [hk, if_false]
          unfold upd
          by_cases hq : (q : Int) = x.2.1
          · have hqq : q = q0 := by omega
            subst hqq
            rw [if_pos hq]
            have h6 := boot_half k ((d.fl x.2.1).getD zeroSec) x.2.2 ht
            rw [← hq] at h6 ⊢
            rcases h6 with h6 | h6
            · exact h5.imp (fun h => h6.trans h) (fun h => h6.trans h)
            · exact .inr (h6.trans (by rw [e2]))
          · rw [if_neg hq]; exact h5
      · exact ⟨d, by rw [List.getElem?_set_ne hij]; exact h1, h2, h3, h4⟩
theorem BootInv.run {D N : Wl.Disk} {i : Nat} {n : Int} (kf : Nat → Int) : ∀ (f m : Nat) (ds : List AD), BootInv D N i n ds → BootInv D N i n (bootRun kf f m ds)
  | 0, _, _, h => h
  | f + 1, m, ds, h => by
    unfold bootRun
    split
    · exact BootInv.run kf f (m + 1) _ (h.one _ _)
    · exact h
theorem pick_non (ds : List AD) : ∀ k, pick ds k = none → ∀ j, j < k → waitsAt ds j = 0
  | 0, _, j, hj => by omega
  | k + 1, h, j, hj => by
    unfold pick at h
    by_cases h0 : 0 < waitsAt ds k
    · rw [if_pos h0] at h
      cases hp : pick ds k with
      | none => rw [hp] at h; cases h
      | some m =>
        rw [hp] at h
        simp only at h
        split at h <;> cases h
    · rw [if_neg h0] at h
      by_cases e : j = k
      · rw [e]; omega
      · exact pick_non ds k h j (by omega)
theorem total_zer : ∀ {ds : List AD}, total ds = 0 → ∀ (i : Nat) (d : AD), ds[i]? = some d → d.ws = []
  | [], _, i, d, h => by simp at h
  | e :: r, hz, i, d, h => by
    have hz2 : e.ws.length + total r = 0 := by simpa [total] using hz
    cases i with
    | zero =>
      have h : e = d := by simpa using h
      subst h
      exact List.eq_nil_of_length_eq_zero (by omega)
    | succ i => exact total_zer (ds := r) (by omega) i d (by simpa using h)
theorem run_dry (kf : Nat → Int) : ∀ (f m : Nat) (ds : List AD), total ds = f → ∀ (i : Nat) (d : AD), (bootRun kf f m ds)[i]? = some d → d.ws = []
  | 0, m, ds, ht, i, d, h => total_zer ht i d h
  | f + 1, m, ds, ht, i, d, h => by
    unfold bootRun at h
    cases hp : pick ds ds.length with
    | none =>
      rw [hp] at h
      have hi := (List.getElem?_eq_some_iff.1 (show ds[i]? = some d from h)).1
      have h0 := pick_non ds _ hp i hi
      unfold waitsAt at h0
      rw [show ds[i]? = some d from h] at h0
      exact List.eq_nil_of_length_eq_zero h0
    | some j =>
      rw [hp] at h
      obtain ⟨hj, hw⟩ := pick_some ds _ _ hp
      refine run_dry kf f (m + 1) _ ?_ i d h
      obtain ⟨e, he⟩ : ∃ e, ds[j]? = some e := ⟨_, List.getElem?_eq_getElem hj⟩
      unfold waitsAt at hw
      rw [he] at hw
      unfold bootOne
      rw [he]
      cases hws : e.ws with
      | nil => simp [hws] at hw
      | cons x r =>
        simp only [hws]
        have := total_set ds j e { e with fl := bootFl (kf m) x.2.1 x.2.2 e.fl, ws := r } he (by simp [hws])
        omega
theorem crash_mix {s : AP} {i : Nat} {d : AD} {N : Wl.Disk} (zs : List Int) (hd : s.ds[i]? = some d) (hws : ∀ x ∈ d.ws, ∃ q : Nat, x.2.1 = (q : Int) ∧ x.2.2.1 = N q) :
    ∃ d', (s.boot zs).ds[i]? = some d' ∧ d'.n = d.n ∧ d'.ws = [] ∧ Wl.Mix (flD d) N (dkD d') := by
  have h0 : BootInv (flD d) N i d.n s.ds := ⟨d, hd, rfl, hws, fun q j _ => .inl rfl⟩
  obtain ⟨d', h1, h2, h3, h4⟩ := h0.run (fun i => low2 (kval zs i)) (total s.ds) 0
  have hdry := run_dry (fun i => low2 (kval zs i)) (total s.ds) 0 s.ds rfl i d' h1
  refine ⟨d', h1, h2, hdry, ?_⟩
  rw [dk_dry hdry]
  exact h4
theorem laid_crash {N : Wl.Disk} {i : Nat} {d : AD} {s s' : AP} (h : WLaid N i d s 2 s') (hi : i < s.ds.length) (hd : d.ws = []) (zs : List Int) : ∃ d', (s'.boot zs).ds[i]? = some d' ∧ d'.n = d.n ∧ d'.ws = [] ∧ Wl.Mix (dkD d) N (dkD d') := by
  rcases h with ⟨h, _⟩ | ⟨_, _, _, d1, h1, h2, _⟩
  · cases h
  · obtain ⟨d', q1, q2, q3, q4⟩ := crash_mix (s := s') (i := i) (d := d1) (N := N) zs (by rw [h1]; exact List.getElem?_set_self hi) (fun x hx => by
      rcases h2.ws x hx with h | h
      · rw [hd] at h; cases h
      · exact h)
    refine ⟨d', q1, q2.trans h2.n, q3, ?_⟩
    have e : flD d1 = dkD d := by rw [dk_dry hd]; unfold flD; rw [h2.fl]
    rw [← e]; exact q4
end Go.Proofs.YtelipeoilcepbaaDoor
