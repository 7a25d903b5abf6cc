/-
  Texts in one file: WmNA. Conditions: the tables and the errors read as the program's text lays them.
-/
import Derived.Test.YtbfeejkdlhdioaaDoorJA0
import Derived.Test.YtbfeejkdlhdioaaDoorJA32
import Derived.Deep.Cut
namespace Go.Proofs.YtbfeejkdlhdioaaDoor
open Go.RowKit
open Wl (B8)
set_option linter.unusedVariables false
set_option linter.unusedSimpArgs false
set_option maxRecDepth 20000
open Wl in
theorem zero_hw {D : Disk} {q : Nat} (h : D q = z64) : ¬ Hw Crc.sumN D q := fun e => by
  have h1 := e.1 0 (by omega) 1 (by omega)
  rw [zero_stamp h, Nat.add_zero, zero_tagAt h (by omega)] at h1
  revert h1
  decide
theorem dk_new (n : Int) (q : Nat) : dkD ⟨n, fun _ => none, []⟩ q = z64 := by
  show (zeroSec).1 = z64
  decide +kernel
section
variable {w : World} {p i : Nat} {F : Nat → Prop} {s : AP} {K : Nat} {d : AD}
/-- Open of a disk on which no log may be -/
theorem open_none {dev : Int} (hp : PlantAt w p F s K) (htab : Tab w) (htf : ¬ F 0) (hK : K + 2 < 1099511627775) (hS : segsP s dev = 0) :
    Calls Tryd.prog 20 #[.pointer (some ⟨p, 0, none⟩), .int .i64 dev] w fun r w' => r = .returned (.tuple #[.pointer none, .int .i64 1]) ∧ Turn nowhere w w' := by
  refine (Open_walk hp htab dev htf hK (gs := []) fun i' d' x' he hd' hs _ _ => absurd hS hs).mono ?_
  rintro r w' (⟨_, h2, h3⟩ | ⟨h1, _⟩ | ⟨h1, _⟩)
  · exact ⟨h2, h3⟩
  · exact absurd hS h1
  · exact absurd hS h1
theorem format_none {dev : Int} (hp : PlantAt w p F s K) (htab : Tab w) (htf : ¬ F 0) (hK : K + 65700 < 1099511627775) (hS : segsP s dev = 0) :
    Calls Tryd.prog 28 #[.pointer (some ⟨p, 0, none⟩), .int .i64 dev] w fun r w' => r = .returned (.int .i64 1) ∧ Turn nowhere w w' := by
  refine (Format_walk hp htab dev htf hK).mono ?_
  rintro r w' (⟨_, h2, h3⟩ | ⟨h1, _⟩ | ⟨h1, _⟩)
  · exact ⟨h2, h3⟩
  · exact absurd hS h1
  · exact absurd hS h1
/-- Open of a new disk -/
theorem open_new (hp : PlantAt w p F s K) (htab : Tab w) (htf : ¬ F 0) (hd : s.ds[i]? = some d) (hon : s.on = true) (hK : K + 2 < 1099511627775) (hS : segsP s i ≠ 0) (h0 : dkD d 0 = z64) (h1 : dkD d 1 = z64) :
    Calls Tryd.prog 20 #[.pointer (some ⟨p, 0, none⟩), .int .i64 (i : Int)] w fun r w' => r = .returned (.tuple #[.pointer none, .int .i64 4]) ∧ Turn nowhere w w' := by
  have hno : ∀ x, Nw (dkD d) 2 x → x.wh = false := fun x hx => hx.none.2 ⟨zero_hw h0, zero_hw h1⟩
  refine (Open_walk hp htab (i : Int) htf hK (gs := []) fun i' d' x' he hd' _ hx hwh => ?_).mono ?_
  · obtain rfl : i = i' := by omega
    obtain rfl : d = d' := Option.some.inj (hd.symm.trans hd')
    rw [hno x' hx] at hwh
    cases hwh
  rintro r w' (⟨e, _⟩ | ⟨_, e, _⟩ | ⟨_, _, i', d', x', he, hd', hx, hc⟩)
  · exact absurd e hS
  · rw [hon] at e
    cases e
  · obtain rfl : i = i' := by omega
    obtain rfl : d = d' := Option.some.inj (hd.symm.trans hd')
    rcases hc with ⟨_, h2, h3⟩ | ⟨h2, _⟩
    · exact ⟨h2, h3⟩
    · rw [hno x' hx] at h2
      cases h2
/-- Format of another disk, or of none -/
theorem format_other {dev : Int} (hp : PlantAt w p F s K) (htab : Tab w) (htf : ¬ F 0) (hd : s.ds[i]? = some d) (hon : s.on = true) (hfu : s.fuse < 0) (hne : dev ≠ (i : Int)) (hK : K + 65700 < 1099511627775) :
    Calls Tryd.prog 28 #[.pointer (some ⟨p, 0, none⟩), .int .i64 dev] w fun r w' => (∃ e : Int, r = .returned (.int .i64 e) ∧ (e = 0 ∨ e = 1)) ∧ Turn F w w' ∧ ∃ (F' : Nat → Prop) (s' : AP), (∀ b, F' b → F b ∨ w.heap.size ≤ b) ∧ PlantAt w' p F' s' (K + 65700) ∧ Tab w' ∧ ¬ F' 0 ∧ s'.ds[i]? = some d ∧ s'.on = true ∧ s'.fuse < 0 := by
  refine (Format_walk hp htab dev htf hK).mono ?_
  rintro r w' (⟨_, h2, h3⟩ | ⟨_, h1, _⟩ | ⟨_, _, i', d1, x, j, sr, dr, e, s', F', he, hd', hx, hj, hfm, hla, hej, hr, hpt, ht, hF⟩)
  · exact ⟨⟨1, h2, .inr rfl⟩, h3.mono fun k _ e => e.elim, F, s, fun b hb => .inl hb, (hp.turn h3 fun _ _ e => e).mono (by omega), tab_still htab h3, htf, hd, hon, hfu⟩
  · rw [hon] at h1
    cases h1
  · have hsf := hfm.fuse hfu
    rcases hla with ⟨rfl, _, hon', ⟨hf1, _⟩, d', h5, h6, h7, h8⟩ | ⟨_, _, h2, _⟩
    · have htl := tab_lt htab
      refine ⟨⟨0, hr, .inl rfl⟩, ht, F', s', hF, hpt, tab_turn htab ht htf, fun e => ?_, ?_, hon', ?_⟩
      · rcases hF _ e with e | e
        · exact htf e
        · omega
      · have hii : i' ≠ i := fun e => hne (by omega)
        rw [h5, hfm.ds, List.getElem?_set_ne hii, List.getElem?_set_ne hii]
        exact hd
      · rw [hf1 (by omega), hsf]
        exact hfu
    · have := h2 (by omega)
      rw [hfm.on, hon] at this
      cases this
end
theorem ptr_isnil {a : Act} {o : Oper} {W : World} {x y : Operand} {t u : TypeId} (ho : o.op = .binOp .eql t x y u) (hx : a.eval x = .pointer none) (hy : a.eval y = .pointer none) (ht : t = 25 ∨ t = 26) : (execOp a.eval o).run Tryd.prog W = .ok (.value (.bool true)) W := by
  rcases ht with rfl | rfl
  all_goals (
    unfold execOp
    simp only [ho, hx, hy]
    go_simp)
theorem bxb_ne {a : Act} {o : Oper} {W : World} {x y : Operand} {p q : Bool} (ho : o.op = .binOp .neq 4 x y 4) (hx : a.eval x = .bool p) (hy : a.eval y = .bool q) : (execOp a.eval o).run Tryd.prog W = .ok (.value (.bool (!(p == q)))) W := by
  unfold execOp
  simp only [ho, hx, hy]
  cases p <;> cases q <;> go_simp
/-- a disk's size, by its number -/
def sizeI (a b dev : Int) : Int := if dev = 0 then a else if dev = 1 then b else 0
theorem segs_small {a b dev : Int} (h : sizeI a b dev < 258) : segsP (AP.new [a, b]) dev = 0 := by
  unfold sizeI at h
  by_cases h0 : dev = 0
  · rw [if_pos h0] at h
    subst h0
    unfold segsP
    rw [if_pos (by decide)]
    show segsN a = 0
    unfold segsN
    exact if_pos h
  · rw [if_neg h0] at h
    by_cases h1 : dev = 1
    · rw [if_pos h1] at h
      subst h1
      unfold segsP
      rw [if_pos (by decide)]
      show segsN b = 0
      unfold segsN
      exact if_pos h
    · refine segsP_bad fun e => ?_
      have : (AP.new [a, b]).ds.length = 2 := rfl
      rw [this] at e
      omega
theorem segs_big {a b dev : Int} (h : 258 ≤ sizeI a b dev) (ha : a ≤ 65536) (hb : b ≤ 65536) : ∃ (i : Nat) (z : Int), dev = (i : Int) ∧ i < 2 ∧ 258 ≤ z ∧ z ≤ 65536 ∧ (AP.new [a, b]).ds[i]? = some ⟨z, fun _ => none, []⟩ ∧ segsN z = ((z - 2).toNat) / 64 ∧ 4 ≤ segsN z := by
  have key : ∀ z : Int, 258 ≤ z → z ≤ 65536 → segsN z = ((z - 2).toNat) / 64 ∧ 4 ≤ segsN z := fun z h1 h2 => by
    unfold segsN
    rw [if_neg (by omega)]
    omega
  unfold sizeI at h
  by_cases h0 : dev = 0
  · rw [if_pos h0] at h
    have := key a h ha
    exact ⟨0, a, h0, by omega, h, ha, rfl, this.1, this.2⟩
  · rw [if_neg h0] at h
    by_cases h1 : dev = 1
    · rw [if_pos h1] at h
      have := key b h hb
      exact ⟨1, b, h1, by omega, h, hb, rfl, this.1, this.2⟩
    · rw [if_neg h1] at h
      omega
set_option maxRecDepth 20000 in
set_option maxHeartbeats 4000000 in
theorem args_walk (one two dev : Int) (w : World) (htab : Tab w) (hdev : -9223372036854775808 ≤ dev ∧ dev ≤ 9223372036854775807) :
    Calls Tryd.prog 5 #[.int .i64 one, .int .i64 two, .int .i64 dev] w fun r w' => r = .returned (.bool true) ∧ Turn nowhere w w' := by
  have HTAB := Lib.hid htab
  have yd := hdev
  clear htab hdev
  go_enter Tryd.func5, Tryd.ntmps5
  go_upto_region 0 with fail
  refine wp_region_lit ?_
  refine wpList_run (v := .bool false) (wanted_none rfl) (gx_assign rfl rfl) ?_
  simp only [zz]
  go_upto_region 1 with fail
  refine wp_region_lit ?_
  refine wpList_op rfl fun K9 HK9 => ?_
  go_wp2_with fail
  refine (shown_walk HTAB.out).mono ?_
  rintro e w1 ⟨rfl, ht⟩
  refine HK9.out _ _ ?_
  clear HK9
  try simp only [zz]
  have HT1 := Lib.hid ht
  have HTAB1 := Lib.hid (tab_still HTAB.out ht)
  clear ht
  refine wpList_run (v := .bool true) (wanted_none rfl) (gx_assign rfl rfl) ?_
  simp only [zz]
  go_upto_region 2 with fail
  refine wp_region_lit ?_
  refine wpList_run (v := .int .i64 one) (wanted_none rfl) (exec_move rfl rfl) ?_
  simp only [zz]
  refine wpList_run (v := .bool (decide (2000 < one))) (wanted_none rfl) (ix_gtr rfl rfl rfl rfl) ?_
  simp only [zz]
  go_upto_if 25 with fail
  go_cut [0] from 24 to 25 (fun kv wx => ∃ q : Int, kv = .int .i64 q ∧ q ≤ 2000 ∧ w1 = wx)
  case first =>
    by_cases h9 : 2000 < one
    · rw [decide_eq_true h9]
      go_upto_region 3 with fail
      refine wp_region_lit ?_
      refine wpList_run (v := .int .i64 2000) (wanted_none rfl) (gx_assign rfl rfl) ?_
      simp only [zz]
      go_wp2_with fail
      go_meet
      exact ⟨2000, rfl, by omega, rfl⟩
    · rw [decide_eq_false h9]
      go_wp2_with fail
      go_meet
      exact ⟨_, rfl, by omega, rfl⟩
  obtain ⟨a, rfl, ya, hw⟩ := hcut
  subst hw
  go_upto_region 4 with fail
  refine wp_region_lit ?_
  refine wpList_run (v := .int .i64 two) (wanted_none rfl) (exec_move rfl rfl) ?_
  simp only [zz]
  refine wpList_run (v := .bool (decide (2000 < two))) (wanted_none rfl) (ix_gtr rfl rfl rfl rfl) ?_
  simp only [zz]
  go_upto_if 27 with fail
  go_cut [1] from 26 to 27 (fun kv wx => ∃ q : Int, kv = .int .i64 q ∧ q ≤ 2000 ∧ w1 = wx)
  case first =>
    by_cases h9 : 2000 < two
    · rw [decide_eq_true h9]
      go_upto_region 5 with fail
      refine wp_region_lit ?_
      refine wpList_run (v := .int .i64 2000) (wanted_none rfl) (gx_assign rfl rfl) ?_
      simp only [zz]
      go_wp2_with fail
      go_meet
      exact ⟨2000, rfl, by omega, rfl⟩
    · rw [decide_eq_false h9]
      go_wp2_with fail
      go_meet
      exact ⟨_, rfl, by omega, rfl⟩
  obtain ⟨b, rfl, yb, hw⟩ := hcut
  subst hw
  go_upto_region 6 with fail
  refine wp_region_lit ?_
  refine wpList_run (v := .int .i64 a) (wanted_none rfl) (exec_move rfl rfl) ?_
  simp only [zz]
  refine wpList_run (v := .int .i64 b) (wanted_none rfl) (exec_move rfl rfl) ?_
  simp only [zz]
  refine wpList_run (v := .slice (some ⟨w1.heap.size, 0, none⟩) 2 2) (w' := w1.alloc (.cells #[.int .i64 a, .int .i64 b] 3)) (wanted_none rfl) (wx_slice2 rfl rfl rfl (build_i2 _ _ w1)) ?_
  simp only [zz]
  have HKS := Lib.hid (ks_two a b w1)
  have HT0 := Lib.hid ((Turn.refl nowhere w1).alloc (.cells #[.int .i64 a, .int .i64 b] 3))
  obtain ⟨g, hg⟩ : ∃ g, g = w1.heap.size := ⟨_, rfl⟩
  rw [← hg] at HKS ⊢
  clear hg
  generalize w1.alloc (.cells #[.int .i64 a, .int .i64 b] 3) = w2 at *
  have HT2 := Lib.hid (HT1.out.trans HT0.out fun _ _ e => e)
  by_cases hok : sizesOk [a, b]
  · have HOK := Lib.hid hok
    clear hok
    have hnw := new_walk (some ⟨g, 0, none⟩) 2 2 [a, b] HKS.out (by decide) (by decide)
    refine wpList_op (wanted_none rfl) fun K9 HK9 => ?_
    go_wp2_with fail
    refine hnw.mono ?_
    clear hnw
    rintro e w3 (⟨_, p, F, rfl, hpl, ht, hF⟩ | ⟨hbad, _⟩)
    rotate_left
    · exact absurd HOK.out hbad
    refine HK9.out _ _ ?_
    clear HK9
    try simp only [zz]
    have HPL := Lib.hid hpl
    have HT3 := Lib.hid (HT2.out.trans ht fun _ _ e => e)
    have HF := Lib.hid (show ∀ c, F c → w.heap.size ≤ c from fun c hc => Nat.le_trans HT2.out.size (hF c hc))
    have HTB3 := Lib.hid (tab_still HTAB.out HT3.out)
    have HTF := Lib.hid (show ¬ F 0 from fun e => by have := HF.out _ e; have := tab_lt HTAB.out; omega)
    clear hpl ht hF HT0 HKS HT1 HT2 HTAB1
    refine wpList_run (v := .tuple #[.pointer (some ⟨p, 0, none⟩), .int .i64 0]) (wanted_none rfl) (exec_move rfl rfl) ?_
    simp only [zz]
    refine wpList_run (v := .pointer (some ⟨p, 0, none⟩)) (wanted_none rfl) (ix_extract rfl rfl rfl) ?_
    simp only [zz]
    refine wpList_run (v := .int .i64 0) (wanted_none rfl) (ix_extract rfl rfl rfl) ?_
    simp only [zz]
    refine wpList_run (v := .pointer (some ⟨p, 0, none⟩)) (wanted_none rfl) (gx_assign rfl rfl) ?_
    simp only [zz]
    refine wpList_run (v := .int .i64 0) (wanted_none rfl) (gx_assign rfl rfl) ?_
    simp only [zz]
    go_upto_region 7 with fail
    refine wp_region_lit ?_
    refine wpList_run (v := .bool true) (wanted_none rfl) (exec_move rfl rfl) ?_
    simp only [zz]
    refine wpList_run (v := .bool false) (wanted_none rfl) (ix_not (b := true) rfl rfl) ?_
    simp only [zz]
    refine wpList_run (v := .bool false) (wanted_none rfl) (exec_move rfl rfl) ?_
    simp only [zz]
    refine wpList_run (v := .pointer (some ⟨p, 0, none⟩)) rfl (exec_move rfl rfl) ?_
    simp only [zz]
    refine wpList_run (v := .bool false) rfl (ptr_nilP rfl rfl rfl rfl) ?_
    simp only [zz]
    refine wpList_run (v := .int .i64 0) rfl (exec_move rfl rfl) ?_
    simp only [zz]
    refine wpList_run (v := .bool false) rfl (ix_neq rfl rfl rfl (by decide)) ?_
    simp only [zz]
    refine wpList_run (v := .bool false) rfl (bxb_ne (p := false) (q := false) rfl rfl rfl) ?_
    simp only [zz]
    refine wpList_run (v := .bool false) (wanted_none rfl) (ix_pickF rfl rfl rfl) ?_
    simp only [zz]
    go_upto_region 9 with fail
    refine wp_region_lit ?_
    refine wpList_run (v := .pointer (some ⟨p, 0, none⟩)) (wanted_none rfl) (exec_move rfl rfl) ?_
    simp only [zz]
    refine wpList_run (v := .bool false) (wanted_none rfl) (ptr_nilP rfl rfl rfl rfl) ?_
    simp only [zz]
    go_upto_region 11 with fail
    refine wp_region_lit ?_
    refine wpList_run (v := .int .i64 0) (wanted_none rfl) (gx_assign rfl rfl) ?_
    simp only [zz]
    go_upto_region 12 with fail
    refine wp_region_lit ?_
    refine wpList_run (v := .int .i64 dev) (wanted_none rfl) (exec_move rfl rfl) ?_
    simp only [zz]
    refine wpList_run (v := .bool (decide (dev = 0))) (wanted_none rfl) (ix_eql rfl rfl rfl rfl) ?_
    simp only [zz]
    go_upto_if 47 with fail
    go_cut [10] from 46 to 48 (fun kv wx => kv = .int .i64 (if dev = 0 then a else 0) ∧ w3 = wx)
    case first =>
      by_cases h9 : dev = 0
      · rw [decide_eq_true h9]
        go_upto_region 13 with fail
        refine wp_region_lit ?_
        refine wpList_run (v := .int .i64 a) (wanted_none rfl) (exec_move rfl rfl) ?_
        simp only [zz]
        refine wpList_run (v := .int .i64 a) (wanted_none rfl) (gx_assign rfl rfl) ?_
        simp only [zz]
        go_wp2_with fail
        go_meet
        exact ⟨by rw [if_pos h9], rfl⟩
      · rw [decide_eq_false h9]
        go_wp2_with fail
        go_meet
        exact ⟨by rw [if_neg h9], rfl⟩
    obtain ⟨rfl, hw⟩ := hcut
    subst hw
    obtain ⟨t0, ht0⟩ : ∃ t, t = (if dev = 0 then a else 0) := ⟨_, rfl⟩
    rw [← ht0]
    have HZ0 := Lib.hid ht0
    clear ht0
    go_upto_region 14 with fail
    refine wp_region_lit ?_
    refine wpList_run (v := .int .i64 dev) (wanted_none rfl) (exec_move rfl rfl) ?_
    simp only [zz]
    refine wpList_run (v := .bool (decide (dev = 1))) (wanted_none rfl) (ix_eql rfl rfl rfl rfl) ?_
    simp only [zz]
    go_upto_if 50 with fail
    go_cut [10] from 49 to 51 (fun kv wx => kv = .int .i64 (sizeI a b dev) ∧ w3 = wx)
    case first =>
      by_cases h9 : dev = 1
      · rw [decide_eq_true h9]
        go_upto_region 15 with fail
        refine wp_region_lit ?_
        refine wpList_run (v := .int .i64 b) (wanted_none rfl) (exec_move rfl rfl) ?_
        simp only [zz]
        refine wpList_run (v := .int .i64 b) (wanted_none rfl) (gx_assign rfl rfl) ?_
        simp only [zz]
        go_wp2_with fail
        go_meet
        exact ⟨by unfold sizeI; rw [if_neg (by omega), if_pos h9], rfl⟩
      · rw [decide_eq_false h9]
        go_wp2_with fail
        go_meet
        exact ⟨by rw [HZ0.out]; unfold sizeI; rw [if_neg h9], rfl⟩
    obtain ⟨rfl, hw⟩ := hcut
    subst hw
    obtain ⟨sz, hsz⟩ : ∃ t, t = sizeI a b dev := ⟨_, rfl⟩
    rw [← hsz]
    clear HZ0
    by_cases h258 : sz < 258
    · have HSG := Lib.hid (show segsP (AP.new [a, b]) dev = 0 from segs_small (by rw [← hsz]; exact h258))
      clear hsz
      go_upto_region 16 with fail
      refine wp_region_lit ?_
      refine wpList_run (v := .pointer (some ⟨p, 0, none⟩)) (wanted_none rfl) (exec_move rfl rfl) ?_
      simp only [zz]
      refine wpList_run (v := .int .i64 dev) (wanted_none rfl) (exec_move rfl rfl) ?_
      simp only [zz]
      refine wpList_op (wanted_none rfl) fun K9 HK9 => ?_
      go_wp2_with fail
      refine (open_none HPL.out HTB3.out HTF.out (by decide) HSG.out).mono ?_
      rintro e w4 ⟨rfl, ht⟩
      refine HK9.out _ _ ?_
      clear HK9
      try simp only [zz]
      have HT4 := Lib.hid (HT3.out.trans ht fun _ _ e => e)
      have HPL4 := Lib.hid (HPL.out.turn ht fun _ _ e => e)
      have HTB4 := Lib.hid (tab_still HTB3.out ht)
      clear ht
      refine wpList_run (v := .tuple #[.pointer none, .int .i64 1]) (wanted_none rfl) (exec_move rfl rfl) ?_
      simp only [zz]
      refine wpList_run (v := .pointer none) (wanted_none rfl) (ix_extract rfl rfl rfl) ?_
      simp only [zz]
      refine wpList_run (v := .int .i64 1) (wanted_none rfl) (ix_extract rfl rfl rfl) ?_
      simp only [zz]
      refine wpList_run (v := .pointer none) (wanted_none rfl) (gx_assign rfl rfl) ?_
      simp only [zz]
      refine wpList_run (v := .int .i64 1) (wanted_none rfl) (gx_assign rfl rfl) ?_
      simp only [zz]
      go_upto_region 17 with fail
      refine wp_region_lit ?_
      refine wpList_run (v := .pointer (some ⟨p, 0, none⟩)) (wanted_none rfl) (exec_move rfl rfl) ?_
      simp only [zz]
      refine wpList_run (v := .int .i64 dev) (wanted_none rfl) (exec_move rfl rfl) ?_
      simp only [zz]
      refine wpList_op (wanted_none rfl) fun K9 HK9 => ?_
      go_wp2_with fail
      refine (format_none HPL4.out HTB4.out HTF.out (by decide) HSG.out).mono ?_
      rintro e w5 ⟨rfl, ht⟩
      refine HK9.out _ _ ?_
      clear HK9
      try simp only [zz]
      have HT5 := Lib.hid (HT4.out.trans ht fun _ _ e => e)
      have HPL5 := Lib.hid (HPL4.out.turn ht fun _ _ e => e)
      have HTB5 := Lib.hid (tab_still HTB4.out ht)
      clear ht
      refine wpList_run (v := .int .i64 1) (wanted_none rfl) (gx_assign rfl rfl) ?_
      simp only [zz]
      go_upto_region 18 with fail
      refine wp_region_lit ?_
      refine wpList_run (v := .pointer (some ⟨p, 0, none⟩)) (wanted_none rfl) (exec_move rfl rfl) ?_
      simp only [zz]
      refine wpList_run (v := .int .i64 dev) (wanted_none rfl) (exec_move rfl rfl) ?_
      simp only [zz]
      refine wpList_op (wanted_none rfl) fun K9 HK9 => ?_
      go_wp2_with fail
      refine (open_none HPL5.out HTB5.out HTF.out (by decide) HSG.out).mono ?_
      rintro e w6 ⟨rfl, ht⟩
      refine HK9.out _ _ ?_
      clear HK9
      try simp only [zz]
      have HT6 := Lib.hid (HT5.out.trans ht fun _ _ e => e)
      clear ht
      refine wpList_run (v := .tuple #[.pointer none, .int .i64 1]) (wanted_none rfl) (exec_move rfl rfl) ?_
      simp only [zz]
      refine wpList_run (v := .pointer none) (wanted_none rfl) (ix_extract rfl rfl rfl) ?_
      simp only [zz]
      refine wpList_run (v := .int .i64 1) (wanted_none rfl) (ix_extract rfl rfl rfl) ?_
      simp only [zz]
      refine wpList_run (v := .pointer none) (wanted_none rfl) (gx_assign rfl rfl) ?_
      simp only [zz]
      refine wpList_run (v := .int .i64 1) (wanted_none rfl) (gx_assign rfl rfl) ?_
      simp only [zz]
      go_upto_region 19 with fail
      refine wp_region_lit ?_
      refine wpList_run (v := .int .i64 sz) (wanted_none rfl) (exec_move rfl rfl) ?_
      simp only [zz]
      refine wpList_run (v := .bool true) (wanted_none rfl) (ix_lss rfl rfl rfl (decide_eq_true h258)) ?_
      simp only [zz]
      go_upto_region 20 with fail
      refine wp_region_lit ?_
      refine wpList_run (v := .int .i64 1) (wanted_none rfl) (exec_move rfl rfl) ?_
      simp only [zz]
      refine wpList_run (v := .bool true) (wanted_none rfl) (ix_eql rfl rfl rfl (by decide)) ?_
      simp only [zz]
      refine wpList_run (v := .bool true) (wanted_none rfl) (exec_move rfl rfl) ?_
      simp only [zz]
      refine wpList_run (v := .int .i64 1) rfl (exec_move rfl rfl) ?_
      simp only [zz]
      refine wpList_run (v := .bool true) rfl (ix_eql rfl rfl rfl (by decide)) ?_
      simp only [zz]
      refine wpList_run (v := .bool true) (wanted_none rfl) (ix_pickT rfl rfl rfl) ?_
      simp only [zz]
      refine wpList_run (v := .bool true) (wanted_none rfl) (exec_move rfl rfl) ?_
      simp only [zz]
      refine wpList_run (v := .pointer none) rfl (exec_move rfl rfl) ?_
      simp only [zz]
      refine wpList_run (v := .bool true) rfl (ptr_isnil rfl rfl rfl (.inr rfl)) ?_
      simp only [zz]
      refine wpList_run (v := .bool true) (wanted_none rfl) (ix_pickT rfl rfl rfl) ?_
      simp only [zz]
      refine wpList_run (v := .bool true) (wanted_none rfl) (exec_move rfl rfl) ?_
      simp only [zz]
      refine wpList_run (v := .int .i64 1) rfl (exec_move rfl rfl) ?_
      simp only [zz]
      refine wpList_run (v := .bool true) rfl (ix_eql rfl rfl rfl (by decide)) ?_
      simp only [zz]
      refine wpList_run (v := .bool true) (wanted_none rfl) (ix_pickT rfl rfl rfl) ?_
      simp only [zz]
      refine wpList_run (v := .bool true) (wanted_none rfl) (gx_assign rfl rfl) ?_
      simp only [zz]
      go_wp2_with fail
      go_ret
      exact ⟨rfl, HT6.out⟩
    · obtain ⟨i, dz9, hdev, hi2, z1, z2, hds, hsn, hs4⟩ := segs_big (dev := dev) (by rw [← hsz]; omega) (show a ≤ 65536 by omega) (show b ≤ 65536 by omega)
      subst hdev
      have HDS := Lib.hid hds
      have HSG := Lib.hid (segsP_at hds)
      obtain ⟨S, hS⟩ : ∃ S, S = segsN dz9 := ⟨_, rfl⟩
      have HSS := Lib.hid hS
      rw [show (AD.mk dz9 (fun _ => none) []).n = dz9 from rfl, ← hS] at HSG
      rw [← hS] at hs4
      have HS4 := Lib.hid hs4
      have yi : i < 2 := hi2
      have y258 : ¬ sz < 258 := h258
      clear hds hsz hS hs4 hsn hi2 h258
      go_upto_region 16 with fail
      refine wp_region_lit ?_
      refine wpList_run (v := .pointer (some ⟨p, 0, none⟩)) (wanted_none rfl) (exec_move rfl rfl) ?_
      simp only [zz]
      refine wpList_run (v := .int .i64 (i : Int)) (wanted_none rfl) (exec_move rfl rfl) ?_
      simp only [zz]
      refine wpList_op (wanted_none rfl) fun K9 HK9 => ?_
      go_wp2_with fail
      refine (open_new HPL.out HTB3.out HTF.out HDS.out rfl (by decide) (by rw [HSG.out]; have := HS4.out; omega) (dk_new dz9 0) (dk_new dz9 1)).mono ?_
      rintro e w4 ⟨rfl, ht⟩
      refine HK9.out _ _ ?_
      clear HK9
      try simp only [zz]
      have HT4 := Lib.hid (HT3.out.trans ht fun _ _ e => e)
      have HPL4 := Lib.hid (HPL.out.turn ht fun _ _ e => e)
      have HTB4 := Lib.hid (tab_still HTB3.out ht)
      clear ht
      refine wpList_run (v := .tuple #[.pointer none, .int .i64 4]) (wanted_none rfl) (exec_move rfl rfl) ?_
      simp only [zz]
      refine wpList_run (v := .pointer none) (wanted_none rfl) (ix_extract rfl rfl rfl) ?_
      simp only [zz]
      refine wpList_run (v := .int .i64 4) (wanted_none rfl) (ix_extract rfl rfl rfl) ?_
      simp only [zz]
      refine wpList_run (v := .pointer none) (wanted_none rfl) (gx_assign rfl rfl) ?_
      simp only [zz]
      refine wpList_run (v := .int .i64 4) (wanted_none rfl) (gx_assign rfl rfl) ?_
      simp only [zz]
      go_upto_region 17 with fail
      refine wp_region_lit ?_
      refine wpList_run (v := .pointer (some ⟨p, 0, none⟩)) (wanted_none rfl) (exec_move rfl rfl) ?_
      simp only [zz]
      refine wpList_run (v := .int .i64 (i : Int)) (wanted_none rfl) (exec_move rfl rfl) ?_
      simp only [zz]
      have hfm := format_ok (S := S) HPL4.out HTB4.out HTF.out HDS.out rfl (by show (-1 : Int) < 0; decide) HSG.out (by have := HS4.out; omega) (by decide)
      refine wpList_op (wanted_none rfl) fun K9 HK9 => ?_
      go_wp2_with fail
      refine (hfm).mono ?_
      rintro e w5 ⟨rfl, ht, F5, s5, d5, hF5, hpl, htb, htf, hds5, hon, hfu, hdn, hdry, hdk, hgr⟩
      refine HK9.out _ _ ?_
      clear HK9
      try simp only [zz]
      clear hfm
      have HT5 := Lib.hid (HT4.out.trans ht fun c hc e => by have := HF.out c e; omega)
      have HF5 := Lib.hid (show ∀ c, F5 c → w.heap.size ≤ c from fun c hc => by
        rcases hF5 c hc with e | e
        · exact HF.out c e
        · exact Nat.le_trans HT4.out.size e)
      have HD5 := Lib.hid (show s5.ds[i]? = some d5 from by rw [hds5, List.getElem?_set_self (List.getElem?_eq_some_iff.1 HDS.out).1])
      have HSG5 := Lib.hid (show segsP s5 i = S from by rw [segsP_at HD5.out, hdn]; exact HSS.out.symm)
      have hop := open_ok (S := S) (f := 0) (L := []) hpl htb htf HD5.out hon hdry HSG5.out (by have := HS4.out; omega) hdk (by omega) (by decide) (by decide)
      have HFU5 := Lib.hid (show s5.fuse < 0 from by rw [hfu]; show (-1 : Int) < 0; decide)
      have HDN5 := Lib.hid (show d5.n = dz9 from hdn)
      have HGR := Lib.hid hgr
      clear ht hF5 hds5 hon hfu hdn hdry hdk hgr hpl htb htf HPL4 HPL HTB3 HTB4
      refine wpList_run (v := .int .i64 0) (wanted_none rfl) (gx_assign rfl rfl) ?_
      simp only [zz]
      go_upto_region 18 with fail
      refine wp_region_lit ?_
      refine wpList_run (v := .pointer (some ⟨p, 0, none⟩)) (wanted_none rfl) (exec_move rfl rfl) ?_
      simp only [zz]
      refine wpList_run (v := .int .i64 (i : Int)) (wanted_none rfl) (exec_move rfl rfl) ?_
      simp only [zz]
      refine wpList_op (wanted_none rfl) fun K9 HK9 => ?_
      go_wp2_with fail
      refine hop.mono ?_
      clear hop
      rintro r w6 ⟨ht, F6, s6, hF6, _, _, _, hj, (⟨_, hfu, x, d6, v6, vP6, vH6, gs6, rfl, hlg, hdn, hvf, hva, hnw⟩ | ⟨hfz, _⟩)⟩
      rotate_left
      · exact absurd HFU5.out hfz
      refine HK9.out _ _ ?_
      clear HK9
      try simp only [zz]
      have HT6 := Lib.hid (HT5.out.trans ht fun c hc e => by have := HF5.out c e; omega)
      have HNW6 := Lib.hid (show ∀ c, F6 c ∨ WalG x vP6 vH6 c → w.heap.size ≤ c from fun c hc => by
        have hz := HT5.out.size
        rcases hc with e | e
        · rcases hF6 c e with e | e
          · exact HF5.out c e
          · omega
        · have := hnw c e
          omega)
      have HFU6 := Lib.hid (show s6.fuse < 0 from by rw [hfu HFU5.out]; exact HFU5.out)
      have HV6 := Lib.hid (show v6.first = 0 ∧ v6.age ≤ 2 from ⟨hvf, by have := HGR.out; omega⟩)
      have HL6 := Lib.hid hlg
      have HDN6 := Lib.hid (hdn.trans HDN5.out)
      clear ht hF6 hfu hlg hdn hvf hva hnw hj HGR HF5 HFU5 HDN5 HD5 HSG5 HT5
      refine wpList_run (v := .tuple #[.pointer (some ⟨x, 0, none⟩), .int .i64 0]) (wanted_none rfl) (exec_move rfl rfl) ?_
      simp only [zz]
      refine wpList_run (v := .pointer (some ⟨x, 0, none⟩)) (wanted_none rfl) (ix_extract rfl rfl rfl) ?_
      simp only [zz]
      refine wpList_run (v := .int .i64 0) (wanted_none rfl) (ix_extract rfl rfl rfl) ?_
      simp only [zz]
      refine wpList_run (v := .pointer (some ⟨x, 0, none⟩)) (wanted_none rfl) (gx_assign rfl rfl) ?_
      simp only [zz]
      refine wpList_run (v := .int .i64 0) (wanted_none rfl) (gx_assign rfl rfl) ?_
      simp only [zz]
      go_upto_region 19 with fail
      refine wp_region_lit ?_
      refine wpList_run (v := .int .i64 sz) (wanted_none rfl) (exec_move rfl rfl) ?_
      simp only [zz]
      refine wpList_run (v := .bool false) (wanted_none rfl) (ix_lss rfl rfl rfl (decide_eq_false (by omega))) ?_
      simp only [zz]
      go_upto_region 21 with fail
      refine wp_region_lit ?_
      refine wpList_run (v := .int .i64 4) (wanted_none rfl) (exec_move rfl rfl) ?_
      simp only [zz]
      refine wpList_run (v := .bool false) (wanted_none rfl) (ix_neq rfl rfl rfl (by decide)) ?_
      simp only [zz]
      refine wpList_run (v := .bool false) (wanted_none rfl) (exec_move rfl rfl) ?_
      simp only [zz]
      refine wpList_run (v := .int .i64 0) rfl (exec_move rfl rfl) ?_
      simp only [zz]
      refine wpList_run (v := .bool false) rfl (ix_neq rfl rfl rfl (by decide)) ?_
      simp only [zz]
      refine wpList_run (v := .bool false) (wanted_none rfl) (ix_pickF rfl rfl rfl) ?_
      simp only [zz]
      refine wpList_run (v := .bool false) (wanted_none rfl) (exec_move rfl rfl) ?_
      simp only [zz]
      refine wpList_run (v := .pointer (some ⟨x, 0, none⟩)) rfl (exec_move rfl rfl) ?_
      simp only [zz]
      refine wpList_run (v := .bool false) rfl (ptr_nilW rfl rfl rfl rfl) ?_
      simp only [zz]
      refine wpList_run (v := .bool false) (wanted_none rfl) (ix_pickF rfl rfl rfl) ?_
      simp only [zz]
      refine wpList_run (v := .bool false) (wanted_none rfl) (exec_move rfl rfl) ?_
      simp only [zz]
      refine wpList_run (v := .int .i64 0) rfl (exec_move rfl rfl) ?_
      simp only [zz]
      refine wpList_run (v := .bool false) rfl (ix_neq rfl rfl rfl (by decide)) ?_
      simp only [zz]
      refine wpList_run (v := .bool false) (wanted_none rfl) (ix_pickF rfl rfl rfl) ?_
      simp only [zz]
      go_upto_region 23 with fail
      refine wp_region_lit ?_
      refine wpList_run (v := .pointer (some ⟨x, 0, none⟩)) (wanted_none rfl) (exec_move rfl rfl) ?_
      simp only [zz]
      refine wpList_run (v := .slice (some ⟨w6.heap.size, 0, none⟩) 1 1) (w' := w6.alloc (.cells #[.int .u8 120] 5)) (wanted_none rfl) (wx_slice1 rfl rfl (build_b1 120 w6)) ?_
      simp only [zz]
      refine wpList_run (v := .slice (some ⟨w6.heap.size, 0, none⟩) 1 1) (w' := w6.alloc (.cells #[.int .u8 120] 5 (1, 2))) (wanted_none rfl) (wx_conv rfl rfl (conv_b1 120 w6)) ?_
      simp only [zz]
      have HBga := Lib.hid (lit_bs (W := w6) 120)
      have HTa := Lib.hid ((Turn.refl nowhere w6).alloc (.cells #[.int .u8 120] 5 (1, 2)))
      obtain ⟨ga, hg⟩ : ∃ g, g = w6.heap.size := ⟨_, rfl⟩
      rw [← hg] at HBga ⊢
      clear hg
      rw [show ((120 : UInt8).toNat : Int) = 120 from rfl] at HBga
      generalize w6.alloc (.cells #[.int .u8 120] 5 (1, 2)) = w7 at HBga HTa ⊢
      refine wpList_run (v := .slice (some ⟨w7.heap.size, 0, none⟩) 1 1) (w' := w7.alloc (.cells #[.slice (some ⟨ga, 0, none⟩) 1 1] 38)) (wanted_none rfl) (wx_slice1 rfl rfl (build_l1 ga w7)) ?_
      simp only [zz]
      have hb := Blk.new w7 38 #[.slice (some ⟨ga, 0, none⟩) 1 1]
      have ht := (Turn.refl nowhere w7).alloc (.cells #[.slice (some ⟨ga, 0, none⟩) 1 1] 38)
      obtain ⟨gk, hg⟩ : ∃ g, g = w7.heap.size := ⟨_, rfl⟩
      rw [← hg] at hb ⊢
      clear hg
      generalize w7.alloc (.cells #[.slice (some ⟨ga, 0, none⟩) 1 1] 38) = w8 at hb ht ⊢
      have HLS := Lib.hid (show Ls w8 (some ⟨gk, 0, none⟩) 1 [[120]] from ⟨rfl, by decide, fun _ => ⟨gk, 0, rfl, fun i l hl => by
        match i, hl with
        | 0, hl =>
          obtain rfl := Option.some.inj hl
          exact ⟨some ⟨ga, 0, none⟩, 1, 1, by rw [Nat.zero_add, hb.cell]; rfl, bs_still (HBga.out) ht, (fun e => by cases e), by decide⟩
        | i + 1, hl => simp at hl⟩⟩)
      have HTb := Lib.hid ht
      clear hb ht
      have HT68 := Lib.hid (HTa.out.trans HTb.out fun _ _ e => e)
      have HL8 := Lib.hid (HL6.out.still HT68.out)
      have HT8 := Lib.hid (HT6.out.trans HT68.out fun _ _ e => e)
      have hap := HL8.out.append (cap := 1) (by have := HV6.out.2; omega) (by rw [HV6.out.1]; decide) (by decide) HLS.out
      clear HTa HTb HBga HL6 HT6 HT68
      refine wpList_op (wanted_none rfl) fun K9 HK9 => ?_
      go_wp2_with fail
      refine hap.mono ?_
      clear hap
      rintro r w9 (⟨hl, _⟩ | ⟨_, hfl, _⟩ | ⟨_, ht, F9, s9, hF, _, _, _, hj, (⟨_, rfl, hfu, P, d9, vP9, gs9, hlg, hdn, hnw⟩ | ⟨hfz, _⟩)⟩)
      · exact absurd hl (by decide)
      · exact absurd hfl (HL8.out.lv.room (by show 0 + 1 < S; have := HS4.out; omega) _)
      rotate_left
      · exact absurd HFU6.out hfz
      refine HK9.out _ _ ?_
      clear HK9
      try simp only [zz]
      rw [show (v6.first + ([] : List Wl.Rec).length) = 0 from by rw [HV6.out.1]; rfl]
      obtain ⟨v9, hv⟩ : ∃ v, v = v6.add P (Wl.cost [[120]]) := ⟨_, rfl⟩
      have HV9 := Lib.hid (show v9.first = 0 ∧ v9.age ≤ 2 from by rw [hv]; exact HV6.out)
      rw [← hv] at hlg
      have HL9 := Lib.hid (show Lg w9 x p i F9 s9 _ d9 S v9 vP9 vH6 [[[120]]] gs9 from hlg)
      have HT9 := Lib.hid (HT8.out.trans ht fun c hc e => by have := HNW6.out c e; omega)
      have HNW9 := Lib.hid (show ∀ c, F9 c ∨ WalG x vP9 vH6 c → w.heap.size ≤ c from fun c hc => by
        have hz := HT8.out.size
        rcases hc with e | e
        · rcases hF c e with e | e
          · exact HNW6.out c (.inl e)
          · omega
        · rcases hnw c e with e | e
          · exact HNW6.out c (.inr e)
          · omega)
      have HFU9 := Lib.hid (show s9.fuse < 0 from by rw [hfu HFU6.out]; exact HFU6.out)
      have HDN9 := Lib.hid (hdn.trans HDN6.out)
      clear ht hF hfu hlg hnw hv hj hdn HL8 HT8
      refine wpList_run (v := .tuple #[.int .i64 ((0 : Nat) : Int), .int .i64 0]) (wanted_none rfl) (exec_move rfl rfl) ?_
      simp only [zz]
      refine wpList_run (v := .int .i64 ((0 : Nat) : Int)) (wanted_none rfl) (ix_extract rfl rfl rfl) ?_
      simp only [zz]
      refine wpList_run (v := .int .i64 0) (wanted_none rfl) (ix_extract rfl rfl rfl) ?_
      simp only [zz]
      refine wpList_run (v := .int .i64 ((0 : Nat) : Int)) (wanted_none rfl) (gx_assign rfl rfl) ?_
      simp only [zz]
      refine wpList_run (v := .int .i64 0) (wanted_none rfl) (gx_assign rfl rfl) ?_
      simp only [zz]
      go_upto_region 24 with fail
      refine wp_region_lit ?_
      refine wpList_run (v := .pointer (some ⟨p, 0, none⟩)) (wanted_none rfl) (exec_move rfl rfl) ?_
      simp only [zz]
      refine wpList_run (v := .int .i64 (i : Int)) (wanted_none rfl) (exec_move rfl rfl) ?_
      simp only [zz]
      refine wpList_run (v := .int .i64 (1 - (i : Int))) (wanted_none rfl) (ix_sub rfl rfl rfl rfl (by omega)) ?_
      simp only [zz]
      have hfo := format_other (dev := 1 - (i : Int)) HL9.out.pt HL9.out.tab HL9.out.tf HL9.out.ds HL9.out.on HFU9.out (by omega) (by decide)
      refine wpList_op (wanted_none rfl) fun K9 HK9 => ?_
      go_wp2_with fail
      refine (hfo).mono ?_
      rintro e w10 ⟨⟨e10, rfl, he10⟩, ht, F10, s10, hF10, hpl, htb, htf, hd10, hon10, hfu10⟩
      refine HK9.out _ _ ?_
      clear HK9
      try simp only [zz]
      clear hfo
      have HT10 := Lib.hid (HT9.out.trans ht fun c hc e => by have := HNW9.out c (.inl e); omega)
      have HF10 := Lib.hid (show ∀ c, F10 c → w.heap.size ≤ c from fun c hc => by
        have hz := HT9.out.size
        rcases hF10 c hc with e | e
        · exact HNW9.out c (.inl e)
        · omega)
      have HE10 := Lib.hid he10
      have HFU10 := Lib.hid hfu10
      have hdk9 := HL9.out.lv.on.disk
      rw [HV9.out.1] at hdk9
      have hop := open_ok (S := S) (f := 0) (L := [[[120]]]) hpl htb htf hd10 hon10 HL9.out.dry (by rw [segsP_at hd10, HDN9.out]; exact HSS.out.symm) (by have := HS4.out; omega) hdk9 (by rw [HL9.out.lv.on.gr]; have := HV9.out.2; omega) (by decide) (by decide)
      clear ht hF10 hpl htb htf hd10 hon10 hfu10 he10 hdk9 HL9 HT9
      refine wpList_run (v := .int .i64 e10) (wanted_none rfl) (gx_assign rfl rfl) ?_
      simp only [zz]
      go_upto_region 25 with fail
      refine wp_region_lit ?_
      refine wpList_run (v := .pointer (some ⟨p, 0, none⟩)) (wanted_none rfl) (exec_move rfl rfl) ?_
      simp only [zz]
      refine wpList_run (v := .int .i64 (i : Int)) (wanted_none rfl) (exec_move rfl rfl) ?_
      simp only [zz]
      refine wpList_op (wanted_none rfl) fun K9 HK9 => ?_
      go_wp2_with fail
      refine hop.mono ?_
      clear hop
      rintro r w11 ⟨ht, F11, s11, hF11, _, _, _, hj, (⟨_, hfu, x2, d11, v11, vP11, vH11, gs11, rfl, hlg, hdn, hvf, hva, hnw⟩ | ⟨hfz, _⟩)⟩
      rotate_left
      · exact absurd HFU10.out hfz
      refine HK9.out _ _ ?_
      clear HK9
      try simp only [zz]
      have HT11 := Lib.hid (HT10.out.trans ht fun c hc e => by have := HF10.out c e; omega)
      have HV11 := Lib.hid hvf
      have HL11 := Lib.hid hlg
      clear ht hF11 hfu hlg hdn hvf hva hnw hj HT10
      refine wpList_run (v := .tuple #[.pointer (some ⟨x2, 0, none⟩), .int .i64 0]) (wanted_none rfl) (exec_move rfl rfl) ?_
      simp only [zz]
      refine wpList_run (v := .pointer (some ⟨x2, 0, none⟩)) (wanted_none rfl) (ix_extract rfl rfl rfl) ?_
      simp only [zz]
      refine wpList_run (v := .int .i64 0) (wanted_none rfl) (ix_extract rfl rfl rfl) ?_
      simp only [zz]
      refine wpList_run (v := .pointer (some ⟨x2, 0, none⟩)) (wanted_none rfl) (gx_assign rfl rfl) ?_
      simp only [zz]
      refine wpList_run (v := .int .i64 0) (wanted_none rfl) (gx_assign rfl rfl) ?_
      simp only [zz]
      rcases HE10.out with e9 | e9 <;> subst e9
      · go_upto_region 26 with fail
        refine wp_region_lit ?_
        refine wpList_run (v := .int .i64 0) (wanted_none rfl) (exec_move rfl rfl) ?_
        simp only [zz]
        refine wpList_run (v := .bool false) (wanted_none rfl) (ix_neq rfl rfl rfl (by decide)) ?_
        simp only [zz]
        refine wpList_run (v := .bool false) (wanted_none rfl) (exec_move rfl rfl) ?_
        simp only [zz]
        refine wpList_run (v := .int .i64 0) rfl (exec_move rfl rfl) ?_
        simp only [zz]
        refine wpList_run (v := .bool false) rfl (ix_neq rfl rfl rfl (by decide)) ?_
        simp only [zz]
        refine wpList_run (v := .bool false) (wanted_none rfl) (ix_pickF rfl rfl rfl) ?_
        simp only [zz]
        refine wpList_run (v := .bool false) (wanted_none rfl) (exec_move rfl rfl) ?_
        simp only [zz]
        refine wpList_run (v := .pointer (some ⟨x2, 0, none⟩)) rfl (exec_move rfl rfl) ?_
        simp only [zz]
        refine wpList_run (v := .bool false) rfl (ptr_nilW rfl rfl rfl rfl) ?_
        simp only [zz]
        refine wpList_run (v := .bool false) (wanted_none rfl) (ix_pickF rfl rfl rfl) ?_
        simp only [zz]
        refine wpList_run (v := .bool false) (wanted_none rfl) (exec_move rfl rfl) ?_
        simp only [zz]
        refine wpList_run (v := .int .i64 0) rfl (exec_move rfl rfl) ?_
        simp only [zz]
        refine wpList_run (v := .bool false) rfl (ix_neq rfl rfl rfl (by decide)) ?_
        simp only [zz]
        refine wpList_run (v := .bool false) rfl (exec_move rfl rfl) ?_
        simp only [zz]
        refine wpList_skip (by go_simp) ?_
        simp only [zz]
        refine wpList_skip (by go_simp) ?_
        simp only [zz]
        refine wpList_run (v := .bool false) rfl (ix_pickF rfl rfl rfl) ?_
        simp only [zz]
        refine wpList_run (v := .bool false) (wanted_none rfl) (ix_pickF rfl rfl rfl) ?_
        simp only [zz]
        go_upto_region 28 with fail
        refine wp_region_lit ?_
        refine wpList_run (v := .pointer (some ⟨x2, 0, none⟩)) (wanted_none rfl) (exec_move rfl rfl) ?_
        simp only [zz]
        refine wpList_op (wanted_none rfl) fun K9 HK9 => ?_
        go_wp2_with fail
        refine (HL11.out.read (by rw [HV11.out]; decide) 0 (by decide)).mono ?_
        rintro r w12 ⟨ht, ⟨hbad, _⟩ | ⟨k9, l9, gr, hk9, hl9, rfl, hls, _, _, _, _⟩⟩
        · exact absurd ⟨by rw [HV11.out]; decide, by rw [HV11.out]; decide⟩ hbad
        obtain rfl : k9 = 0 := by have := HV11.out; omega
        obtain rfl := Option.some.inj hl9
        refine HK9.out _ _ ?_
        clear HK9
        try simp only [zz]
        have HT12 := Lib.hid (HT11.out.trans ht fun _ _ e => e)
        have HL12 := Lib.hid (HL11.out.still ht)
        obtain ⟨b9, o9, e9, hrow⟩ := hls.2.2 (by decide)
        obtain ⟨A9, n9, c9, hcell, hbs, _, _⟩ := hrow 0 [120] rfl
        obtain rfl : 1 = n9 := hbs.1
        injection e9 with e9
        injection e9 with e9 e8
        subst e9 e8
        have HCE := Lib.hid hcell
        have HBS := Lib.hid hbs
        clear ht hls hk9 hl9 hrow hcell hbs HL11 HT11
        refine wpList_run (v := .tuple #[.slice (some ⟨gr, 0, none⟩) 1 1, .int .i64 0]) (wanted_none rfl) (exec_move rfl rfl) ?_
        simp only [zz]
        refine wpList_run (v := .slice (some ⟨gr, 0, none⟩) 1 1) (wanted_none rfl) (ix_extract rfl rfl rfl) ?_
        simp only [zz]
        refine wpList_run (v := .int .i64 0) (wanted_none rfl) (ix_extract rfl rfl rfl) ?_
        simp only [zz]
        refine wpList_run (v := .slice (some ⟨gr, 0, none⟩) 1 1) (wanted_none rfl) (gx_assign rfl rfl) ?_
        simp only [zz]
        refine wpList_run (v := .int .i64 0) (wanted_none rfl) (gx_assign rfl rfl) ?_
        simp only [zz]
        go_upto_region 29 with fail
        refine wp_region_lit ?_
        refine wpList_run (v := .int .i64 0) (wanted_none rfl) (exec_move rfl rfl) ?_
        simp only [zz]
        refine wpList_run (v := .bool true) (wanted_none rfl) (ix_eql rfl rfl rfl (by decide)) ?_
        simp only [zz]
        refine wpList_run (v := .bool true) (wanted_none rfl) (exec_move rfl rfl) ?_
        simp only [zz]
        refine wpList_run (v := .slice (some ⟨gr, 0, none⟩) 1 1) rfl (exec_move rfl rfl) ?_
        simp only [zz]
        refine wpList_run (v := .int .i64 1) rfl (gx_len rfl rfl Tryd.underlying33) ?_
        simp only [zz]
        refine wpList_run (v := .bool true) rfl (ix_eql rfl rfl rfl (by decide)) ?_
        simp only [zz]
        refine wpList_run (v := .bool true) (wanted_none rfl) (ix_pickT rfl rfl rfl) ?_
        simp only [zz]
        refine wpList_run (v := .bool true) (wanted_none rfl) (exec_move rfl rfl) ?_
        simp only [zz]
        refine wpList_run (v := .slice (some ⟨gr, 0, none⟩) 1 1) rfl (exec_move rfl rfl) ?_
        simp only [zz]
        refine wpList_run (v := .pointer (some ⟨gr, 0 + 0 * 1, none⟩)) rfl (gx_iaddr (i := 0) (sz := 1) rfl rfl rfl Tryd.underlying33 size_sl (by decide) rfl) ?_
        simp only [zz]
        refine wpList_run (v := .slice A9 1 c9) rfl (exec_load1 rfl rfl (by kernel_rfl) HCE.out) ?_
        simp only [zz]
        refine wpList_run (v := strV [120]) rfl (exec_strBs rfl rfl HBS.out) ?_
        simp only [zz]
        refine wpList_run (v := .bool true) rfl ((exec_seql rfl rfl rfl).trans rfl) ?_
        simp only [zz]
        refine wpList_run (v := .bool true) (wanted_none rfl) (ix_pickT rfl rfl rfl) ?_
        simp only [zz]
        refine wpList_run (v := .bool true) (wanted_none rfl) (exec_move rfl rfl) ?_
        simp only [zz]
        refine wpList_run (v := .pointer (some ⟨x2, 0, none⟩)) rfl (exec_move rfl rfl) ?_
        simp only [zz]
        refine wpList_op (by go_simp) fun K9 HK9 => ?_
        go_wp2_with fail
        refine (Next_walk HL12.out.wb (by rw [HV11.out]; decide)).mono ?_
        rintro e w13 ⟨rfl, ht⟩
        refine HK9.out _ _ ?_
        clear HK9
        try simp only [zz]
        have HT13 := Lib.hid (HT12.out.trans ht fun _ _ e => e)
        clear ht
        rw [HL12.out.lv.pn, HV11.out]
        refine wpList_run (v := .bool true) rfl (ix_eql rfl rfl rfl (by decide)) ?_
        simp only [zz]
        refine wpList_run (v := .bool true) (wanted_none rfl) (ix_pickT rfl rfl rfl) ?_
        simp only [zz]
        refine wpList_run (v := .bool true) (wanted_none rfl) (gx_assign rfl rfl) ?_
        simp only [zz]
        go_wp2_with fail
        go_ret
        exact ⟨rfl, HT13.out⟩
      · go_upto_region 26 with fail
        refine wp_region_lit ?_
        refine wpList_run (v := .int .i64 0) (wanted_none rfl) (exec_move rfl rfl) ?_
        simp only [zz]
        refine wpList_run (v := .bool false) (wanted_none rfl) (ix_neq rfl rfl rfl (by decide)) ?_
        simp only [zz]
        refine wpList_run (v := .bool false) (wanted_none rfl) (exec_move rfl rfl) ?_
        simp only [zz]
        refine wpList_run (v := .int .i64 0) rfl (exec_move rfl rfl) ?_
        simp only [zz]
        refine wpList_run (v := .bool false) rfl (ix_neq rfl rfl rfl (by decide)) ?_
        simp only [zz]
        refine wpList_run (v := .bool false) (wanted_none rfl) (ix_pickF rfl rfl rfl) ?_
        simp only [zz]
        refine wpList_run (v := .bool false) (wanted_none rfl) (exec_move rfl rfl) ?_
        simp only [zz]
        refine wpList_run (v := .pointer (some ⟨x2, 0, none⟩)) rfl (exec_move rfl rfl) ?_
        simp only [zz]
        refine wpList_run (v := .bool false) rfl (ptr_nilW rfl rfl rfl rfl) ?_
        simp only [zz]
        refine wpList_run (v := .bool false) (wanted_none rfl) (ix_pickF rfl rfl rfl) ?_
        simp only [zz]
        refine wpList_run (v := .bool false) (wanted_none rfl) (exec_move rfl rfl) ?_
        simp only [zz]
        refine wpList_run (v := .int .i64 1) rfl (exec_move rfl rfl) ?_
        simp only [zz]
        refine wpList_run (v := .bool true) rfl (ix_neq rfl rfl rfl (by decide)) ?_
        simp only [zz]
        refine wpList_run (v := .bool true) rfl (exec_move rfl rfl) ?_
        simp only [zz]
        refine wpList_run (v := .int .i64 1) rfl (exec_move rfl rfl) ?_
        simp only [zz]
        refine wpList_run (v := .bool false) rfl (ix_neq rfl rfl rfl (by decide)) ?_
        simp only [zz]
        refine wpList_run (v := .bool false) rfl (ix_pickT rfl rfl rfl) ?_
        simp only [zz]
        refine wpList_run (v := .bool false) (wanted_none rfl) (ix_pickF rfl rfl rfl) ?_
        simp only [zz]
        go_upto_region 28 with fail
        refine wp_region_lit ?_
        refine wpList_run (v := .pointer (some ⟨x2, 0, none⟩)) (wanted_none rfl) (exec_move rfl rfl) ?_
        simp only [zz]
        refine wpList_op (wanted_none rfl) fun K9 HK9 => ?_
        go_wp2_with fail
        refine (HL11.out.read (by rw [HV11.out]; decide) 0 (by decide)).mono ?_
        rintro r w12 ⟨ht, ⟨hbad, _⟩ | ⟨k9, l9, gr, hk9, hl9, rfl, hls, _, _, _, _⟩⟩
        · exact absurd ⟨by rw [HV11.out]; decide, by rw [HV11.out]; decide⟩ hbad
        obtain rfl : k9 = 0 := by have := HV11.out; omega
        obtain rfl := Option.some.inj hl9
        refine HK9.out _ _ ?_
        clear HK9
        try simp only [zz]
        have HT12 := Lib.hid (HT11.out.trans ht fun _ _ e => e)
        have HL12 := Lib.hid (HL11.out.still ht)
        obtain ⟨b9, o9, e9, hrow⟩ := hls.2.2 (by decide)
        obtain ⟨A9, n9, c9, hcell, hbs, _, _⟩ := hrow 0 [120] rfl
        obtain rfl : 1 = n9 := hbs.1
        injection e9 with e9
        injection e9 with e9 e8
        subst e9 e8
        have HCE := Lib.hid hcell
        have HBS := Lib.hid hbs
        clear ht hls hk9 hl9 hrow hcell hbs HL11 HT11
        refine wpList_run (v := .tuple #[.slice (some ⟨gr, 0, none⟩) 1 1, .int .i64 0]) (wanted_none rfl) (exec_move rfl rfl) ?_
        simp only [zz]
        refine wpList_run (v := .slice (some ⟨gr, 0, none⟩) 1 1) (wanted_none rfl) (ix_extract rfl rfl rfl) ?_
        simp only [zz]
        refine wpList_run (v := .int .i64 0) (wanted_none rfl) (ix_extract rfl rfl rfl) ?_
        simp only [zz]
        refine wpList_run (v := .slice (some ⟨gr, 0, none⟩) 1 1) (wanted_none rfl) (gx_assign rfl rfl) ?_
        simp only [zz]
        refine wpList_run (v := .int .i64 0) (wanted_none rfl) (gx_assign rfl rfl) ?_
        simp only [zz]
        go_upto_region 29 with fail
        refine wp_region_lit ?_
        refine wpList_run (v := .int .i64 0) (wanted_none rfl) (exec_move rfl rfl) ?_
        simp only [zz]
        refine wpList_run (v := .bool true) (wanted_none rfl) (ix_eql rfl rfl rfl (by decide)) ?_
        simp only [zz]
        refine wpList_run (v := .bool true) (wanted_none rfl) (exec_move rfl rfl) ?_
        simp only [zz]
        refine wpList_run (v := .slice (some ⟨gr, 0, none⟩) 1 1) rfl (exec_move rfl rfl) ?_
        simp only [zz]
        refine wpList_run (v := .int .i64 1) rfl (gx_len rfl rfl Tryd.underlying33) ?_
        simp only [zz]
        refine wpList_run (v := .bool true) rfl (ix_eql rfl rfl rfl (by decide)) ?_
        simp only [zz]
        refine wpList_run (v := .bool true) (wanted_none rfl) (ix_pickT rfl rfl rfl) ?_
        simp only [zz]
        refine wpList_run (v := .bool true) (wanted_none rfl) (exec_move rfl rfl) ?_
        simp only [zz]
        refine wpList_run (v := .slice (some ⟨gr, 0, none⟩) 1 1) rfl (exec_move rfl rfl) ?_
        simp only [zz]
        refine wpList_run (v := .pointer (some ⟨gr, 0 + 0 * 1, none⟩)) rfl (gx_iaddr (i := 0) (sz := 1) rfl rfl rfl Tryd.underlying33 size_sl (by decide) rfl) ?_
        simp only [zz]
        refine wpList_run (v := .slice A9 1 c9) rfl (exec_load1 rfl rfl (by kernel_rfl) HCE.out) ?_
        simp only [zz]
        refine wpList_run (v := strV [120]) rfl (exec_strBs rfl rfl HBS.out) ?_
        simp only [zz]
        refine wpList_run (v := .bool true) rfl ((exec_seql rfl rfl rfl).trans rfl) ?_
        simp only [zz]
        refine wpList_run (v := .bool true) (wanted_none rfl) (ix_pickT rfl rfl rfl) ?_
        simp only [zz]
        refine wpList_run (v := .bool true) (wanted_none rfl) (exec_move rfl rfl) ?_
        simp only [zz]
        refine wpList_run (v := .pointer (some ⟨x2, 0, none⟩)) rfl (exec_move rfl rfl) ?_
        simp only [zz]
        refine wpList_op (by go_simp) fun K9 HK9 => ?_
        go_wp2_with fail
        refine (Next_walk HL12.out.wb (by rw [HV11.out]; decide)).mono ?_
        rintro e w13 ⟨rfl, ht⟩
        refine HK9.out _ _ ?_
        clear HK9
        try simp only [zz]
        have HT13 := Lib.hid (HT12.out.trans ht fun _ _ e => e)
        clear ht
        rw [HL12.out.lv.pn, HV11.out]
        refine wpList_run (v := .bool true) rfl (ix_eql rfl rfl rfl (by decide)) ?_
        simp only [zz]
        refine wpList_run (v := .bool true) (wanted_none rfl) (ix_pickT rfl rfl rfl) ?_
        simp only [zz]
        refine wpList_run (v := .bool true) (wanted_none rfl) (gx_assign rfl rfl) ?_
        simp only [zz]
        go_wp2_with fail
        go_ret
        exact ⟨rfl, HT13.out⟩
  · have HOK := Lib.hid hok
    clear hok
    have hnw := new_walk (some ⟨g, 0, none⟩) 2 2 [a, b] HKS.out (by decide) (by decide)
    refine wpList_op (wanted_none rfl) fun K9 HK9 => ?_
    go_wp2_with fail
    refine hnw.mono ?_
    clear hnw
    rintro e w3 (⟨hgood, _⟩ | ⟨_, rfl, ht⟩)
    · exact absurd hgood HOK.out
    refine HK9.out _ _ ?_
    clear HK9
    try simp only [zz]
    have HT3 := Lib.hid (HT2.out.trans ht fun _ _ e => e)
    clear ht
    refine wpList_run (v := .tuple #[.pointer none, .int .i64 30]) (wanted_none rfl) (exec_move rfl rfl) ?_
    simp only [zz]
    refine wpList_run (v := .pointer none) (wanted_none rfl) (ix_extract rfl rfl rfl) ?_
    simp only [zz]
    refine wpList_run (v := .int .i64 30) (wanted_none rfl) (ix_extract rfl rfl rfl) ?_
    simp only [zz]
    refine wpList_run (v := .pointer none) (wanted_none rfl) (gx_assign rfl rfl) ?_
    simp only [zz]
    refine wpList_run (v := .int .i64 30) (wanted_none rfl) (gx_assign rfl rfl) ?_
    simp only [zz]
    go_upto_region 7 with fail
    refine wp_region_lit ?_
    refine wpList_run (v := .bool true) (wanted_none rfl) (exec_move rfl rfl) ?_
    simp only [zz]
    refine wpList_run (v := .bool false) (wanted_none rfl) (ix_not (b := true) rfl rfl) ?_
    simp only [zz]
    refine wpList_run (v := .bool false) (wanted_none rfl) (exec_move rfl rfl) ?_
    simp only [zz]
    refine wpList_run (v := .pointer none) rfl (exec_move rfl rfl) ?_
    simp only [zz]
    refine wpList_run (v := .bool true) rfl (ptr_isnil rfl rfl rfl (.inl rfl)) ?_
    simp only [zz]
    refine wpList_run (v := .int .i64 30) rfl (exec_move rfl rfl) ?_
    simp only [zz]
    refine wpList_run (v := .bool true) rfl (ix_neq rfl rfl rfl (by decide)) ?_
    simp only [zz]
    refine wpList_run (v := .bool false) rfl (bxb_ne (p := true) (q := true) rfl rfl rfl) ?_
    simp only [zz]
    refine wpList_run (v := .bool false) (wanted_none rfl) (ix_pickF rfl rfl rfl) ?_
    simp only [zz]
    go_upto_region 9 with fail
    refine wp_region_lit ?_
    refine wpList_run (v := .pointer none) (wanted_none rfl) (exec_move rfl rfl) ?_
    simp only [zz]
    refine wpList_run (v := .bool true) (wanted_none rfl) (ptr_isnil rfl rfl rfl (.inl rfl)) ?_
    simp only [zz]
    go_upto_region 10 with fail
    refine wp_region_lit ?_
    refine wpList_run (v := .bool true) (wanted_none rfl) (gx_assign rfl rfl) ?_
    simp only [zz]
    go_wp2_with fail
    go_ret
    exact ⟨rfl, HT3.out⟩
theorem walArgs_walk (one two dev : Int) (w : World) (hdev : -9223372036854775808 ≤ dev ∧ dev ≤ 9223372036854775807) (htab : Tab w) :
    Calls Tryd.prog 5 #[.int .i64 one, .int .i64 two, .int .i64 dev] w fun r w' => r = .returned (.bool true) ∧ Below w.heap.size w w' :=
  (args_walk one two dev w htab hdev).mono fun r w' ⟨h1, h2⟩ => ⟨h1, h2.below (Nat.le_refl _) fun _ _ e => e⟩
end Go.Proofs.YtbfeejkdlhdioaaDoor
