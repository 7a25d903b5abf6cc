/-
  PlantPlays: the law's walk. No conditions.
-/
import Derived.Test.YteedjfgandgbkaaPpM
import Derived.Deep.CutBlock
import Derived.Test.YteedjfgandgbkaaPlSh
namespace Go.Proofs.Yteedjfgandgbkaa
open Go.RowKit Go.Maps
set_option linter.unusedVariables false
set_option linter.unusedSimpArgs false
theorem RdC.un {w w' : World} {c : Int} {l : List UInt8} {e : Ending} (h : RdC w c l e w') : ∃ A n cp, e = .returned (.tuple #[.slice A n cp, .int .i64 c]) ∧ n ≤ 64 ∧ Turn nowhere w w' ∧ (∀ b, A = some ⟨b, 0, none⟩ → w.heap.size ≤ b) ∧ (0 < n → ∃ R cur, A = some ⟨R, 0, none⟩ ∧ Blk w' R 63 cur ∧ n ≤ cur.size) := by
  rcases h with ⟨h1, rfl, rfl⟩ | ⟨R, h1, h2, h3, h4, h5⟩
  · exact ⟨_, _, _, h1, by omega, Turn.refl _ _, (fun b e => by cases e), fun h => by omega⟩
  · exact ⟨_, _, _, h1, by omega, h5, (fun b e => by injection e with e; injection e with e; omega), fun _ => ⟨R, _, rfl, h3, by rw [List.size_toArray, bcs_length]; omega⟩⟩
def LB (w : World) : Nat → Prop := fun b => b < w.heap.size
def LP (w : World) (g7 g8 : Nat) : Nat → Prop := fun b => (b < w.heap.size ∨ b = g7) ∨ b = g8
section
variable {w w1 w' : World} {g7 g8 : Nat} {t : TypeId} {cs : Array Value}
theorem kept_old (h : Turn nowhere w w1) (ht : Turn (keptL (LP w g7 g8)) w1 w') : Turn nowhere w w' := h.trans ht fun b hb e => e (show (b < w.heap.size ∨ b = g7) ∨ b = g8 from .inl (.inl hb))
theorem kept_7 (h : Blk w1 g7 t cs) (ht : Turn (keptL (LP w g7 g8)) w1 w') : Blk w' g7 t cs := h.turn ht fun e => e (show (g7 < w.heap.size ∨ g7 = g7) ∨ g7 = g8 from .inl (.inr rfl))
theorem kept_8 (h : Blk w1 g8 t cs) (ht : Turn (keptL (LP w g7 g8)) w1 w') : Blk w' g8 t cs := h.turn ht fun e => e (show (g8 < w.heap.size ∨ g8 = g7) ∨ g8 = g8 from .inr rfl)
theorem kept_LB (h : Turn nowhere w w1) (ht : Turn (keptL (LB w)) w1 w') : Turn nowhere w w' := h.trans ht fun b hb e => e (show b < w.heap.size from hb)
end
set_option maxRecDepth 20000 in
set_option maxHeartbeats 16000000 in
theorem plays_walk {w : World} {A : Option Addr} {n c : Nat} {zs : List Int} {A2 : Option Addr} {n2 c2 : Nat} {os : List OpP} (hz : Ks w nowhere A n zs) (hk : OpsP w A2 n2 os) (hn : n2 ≤ 1048576) :
    Calls Try.prog 3 #[.slice A n c, .slice A2 n2 c2] w fun e w' => e = .returned (.bool true) ∧ Turn nowhere w w' := by
  have HZ := Lib.hid hz
  have HK := Lib.hid hk
  have HKN := Lib.hid hk.len
  have HN2 := Lib.hid hn
  have yn2 : (n2 : Int) ≤ 1048576 := by omega
  clear hz hk hn
  go_enter Try.func3, Try.ntmps3
  go_upto_region 0 with fail
  refine wp_region_lit ?_
  refine wpList_run (v := .bool false) (wanted_none rfl) (gx_assign rfl rfl) ?_
  simp only [Act.put, List.setIfInBounds_toArray, List.set_cons_zero, List.set_cons_succ]
  go_upto_region 1 with fail
  refine wp_region_lit ?_
  refine wpList_op rfl fun K9 HK9 => ?_
  go_wp2_with fail
  refine (shown_walk w).mono ?_
  rintro e w1 ⟨rfl, ht⟩
  refine HK9.out _ _ ?_
  clear HK9
  try simp only [Act.put, List.setIfInBounds_toArray, List.set_cons_zero, List.set_cons_succ]
  have HT1 := Lib.hid ht
  have HNX := Lib.hid (new_any (w := w1) A n c zs (HZ.out.to ht fun _ _ e => e))
  clear ht
  by_cases hs : sizesOk zs
  · refine wpList_run (v := .bool true) (wanted_none rfl) (gx_assign rfl rfl) ?_
    simp only [Act.put, List.setIfInBounds_toArray, List.set_cons_zero, List.set_cons_succ]
    go_upto_region 2 with fail
    refine wp_region_lit ?_
    refine wpList_run (v := .slice A n c) (wanted_none rfl) (exec_move rfl rfl) ?_
    simp only [Act.put, List.setIfInBounds_toArray, List.set_cons_zero, List.set_cons_succ]
    have HNG := Lib.hid ((HNX.out).mono (R' := fun e w' => ∃ p F', e = .returned (.tuple #[.pointer (some ⟨p, 0, none⟩), .int .i64 0]) ∧ PlantAt w' p F' (AP.new zs) 0 ∧ Turn nowhere w1 w' ∧ ∀ k, F' k → w1.heap.size ≤ k) fun e w' h => h.elim (fun h => h.2) fun h => absurd hs h.1)
    refine wpList_op rfl fun K9 HK9 => ?_
    go_wp2_with fail
    refine (HNG.out).mono ?_
    rintro e w2 ⟨x, F, rfl, hp, ht, hF⟩
    refine HK9.out _ _ ?_
    clear HK9
    try simp only [Act.put, List.setIfInBounds_toArray, List.set_cons_zero, List.set_cons_succ]
    have HPX := Lib.hid hp
    have HT12 := Lib.hid ht
    have HFX := Lib.hid hF
    have HT2 := Lib.hid (HT1.out.trans ht fun _ _ e => e)
    have HRG := Lib.hid (rnew_at (w := w2) A n c zs (HZ.out.to HT2.out fun _ _ e => e) hs)
    have HSZ := Lib.hid hs
    clear ht hp hF hs HNX HNG
    refine wpList_run (v := .tuple #[.pointer (some ⟨x, 0, none⟩), .int .i64 0]) (wanted_none rfl) (exec_move rfl rfl) ?_
    simp only [Act.put, List.setIfInBounds_toArray, List.set_cons_zero, List.set_cons_succ]
    refine wpList_run (v := .pointer (some ⟨x, 0, none⟩)) (wanted_none rfl) (ix_extract rfl rfl rfl) ?_
    simp only [Act.put, List.setIfInBounds_toArray, List.set_cons_zero, List.set_cons_succ]
    refine wpList_run (v := .int .i64 0) (wanted_none rfl) (ix_extract rfl rfl rfl) ?_
    simp only [Act.put, List.setIfInBounds_toArray, List.set_cons_zero, List.set_cons_succ]
    refine wpList_run (v := .pointer (some ⟨x, 0, none⟩)) (wanted_none rfl) (gx_assign rfl rfl) ?_
    simp only [Act.put, List.setIfInBounds_toArray, List.set_cons_zero, List.set_cons_succ]
    refine wpList_run (v := .int .i64 0) (wanted_none rfl) (gx_assign rfl rfl) ?_
    simp only [Act.put, List.setIfInBounds_toArray, List.set_cons_zero, List.set_cons_succ]
    go_upto_region 3 with fail
    refine wp_region_lit ?_
    refine wpList_run (v := .slice A n c) (wanted_none rfl) (exec_move rfl rfl) ?_
    simp only [Act.put, List.setIfInBounds_toArray, List.set_cons_zero, List.set_cons_succ]
    refine wpList_op rfl fun K9 HK9 => ?_
    go_wp2_with fail
    refine (HRG.out).mono ?_
    rintro e w3 ⟨y, G, Z, rfl, hp, hG, hZ, ht⟩
    refine HK9.out _ _ ?_
    clear HK9
    try simp only [Act.put, List.setIfInBounds_toArray, List.set_cons_zero, List.set_cons_succ]
    have HPY := Lib.hid hp
    have HGX := Lib.hid hG
    have HZX := Lib.hid hZ
    have HT23 := Lib.hid ht
    have HT3 := Lib.hid (HT2.out.trans ht fun _ _ e => e)
    have HCX := Lib.hid (clone_walk (HPX.out.turn ht fun _ _ e => e) (by decide))
    clear ht hp hG hZ HRG
    refine wpList_run (v := .tuple #[.pointer (some ⟨y, 0, none⟩), .int .i64 0]) (wanted_none rfl) (exec_move rfl rfl) ?_
    simp only [Act.put, List.setIfInBounds_toArray, List.set_cons_zero, List.set_cons_succ]
    refine wpList_run (v := .pointer (some ⟨y, 0, none⟩)) (wanted_none rfl) (ix_extract rfl rfl rfl) ?_
    simp only [Act.put, List.setIfInBounds_toArray, List.set_cons_zero, List.set_cons_succ]
    refine wpList_run (v := .int .i64 0) (wanted_none rfl) (ix_extract rfl rfl rfl) ?_
    simp only [Act.put, List.setIfInBounds_toArray, List.set_cons_zero, List.set_cons_succ]
    refine wpList_run (v := .pointer (some ⟨y, 0, none⟩)) (wanted_none rfl) (gx_assign rfl rfl) ?_
    simp only [Act.put, List.setIfInBounds_toArray, List.set_cons_zero, List.set_cons_succ]
    refine wpList_run (v := .int .i64 0) (wanted_none rfl) (gx_assign rfl rfl) ?_
    simp only [Act.put, List.setIfInBounds_toArray, List.set_cons_zero, List.set_cons_succ]
    go_upto_region 4 with fail
    refine wp_region_lit ?_
    refine wpList_run (v := .bool true) (wanted_none rfl) (exec_move rfl rfl) ?_
    simp only [Act.put, List.setIfInBounds_toArray, List.set_cons_zero, List.set_cons_succ]
    refine wpList_run (v := .bool false) (wanted_none rfl) (ix_not (b := true) rfl rfl) ?_
    simp only [Act.put, List.setIfInBounds_toArray, List.set_cons_zero, List.set_cons_succ]
    refine wpList_run (v := .bool false) (wanted_none rfl) (exec_move rfl rfl) ?_
    simp only [Act.put, List.setIfInBounds_toArray, List.set_cons_zero, List.set_cons_succ]
    refine wpList_run (v := .int .i64 0) rfl (exec_move rfl rfl) ?_
    simp only [Act.put, List.setIfInBounds_toArray, List.set_cons_zero, List.set_cons_succ]
    refine wpList_run (v := .int .i64 0) rfl (exec_move rfl rfl) ?_
    simp only [Act.put, List.setIfInBounds_toArray, List.set_cons_zero, List.set_cons_succ]
    refine wpList_run (v := .bool false) rfl (ix_neq rfl rfl rfl (by decide)) ?_
    simp only [Act.put, List.setIfInBounds_toArray, List.set_cons_zero, List.set_cons_succ]
    refine wpList_run (v := .bool false) (wanted_none rfl) (ix_pickF rfl rfl rfl) ?_
    simp only [Act.put, List.setIfInBounds_toArray, List.set_cons_zero, List.set_cons_succ]
    refine wpList_run (v := .bool false) (wanted_none rfl) (exec_move rfl rfl) ?_
    simp only [Act.put, List.setIfInBounds_toArray, List.set_cons_zero, List.set_cons_succ]
    refine wpList_run (v := .pointer (some ⟨x, 0, none⟩)) rfl (exec_move rfl rfl) ?_
    simp only [Act.put, List.setIfInBounds_toArray, List.set_cons_zero, List.set_cons_succ]
    refine wpList_run (v := .bool false) rfl (ptr_nnP rfl rfl rfl rfl) ?_
    simp only [Act.put, List.setIfInBounds_toArray, List.set_cons_zero, List.set_cons_succ]
    refine wpList_run (v := .pointer (some ⟨y, 0, none⟩)) rfl (exec_move rfl rfl) ?_
    simp only [Act.put, List.setIfInBounds_toArray, List.set_cons_zero, List.set_cons_succ]
    refine wpList_run (v := .bool false) rfl (ptr_nnQ rfl rfl rfl rfl) ?_
    simp only [Act.put, List.setIfInBounds_toArray, List.set_cons_zero, List.set_cons_succ]
    refine wpList_run (v := .bool false) rfl (ix_bneq rfl rfl rfl rfl) ?_
    simp only [Act.put, List.setIfInBounds_toArray, List.set_cons_zero, List.set_cons_succ]
    refine wpList_run (v := .bool false) (wanted_none rfl) (ix_pickF rfl rfl rfl) ?_
    simp only [Act.put, List.setIfInBounds_toArray, List.set_cons_zero, List.set_cons_succ]
    go_upto_region 6 with fail
    refine wp_region_lit ?_
    refine wpList_run (v := .pointer (some ⟨y, 0, none⟩)) (wanted_none rfl) (exec_move rfl rfl) ?_
    simp only [Act.put, List.setIfInBounds_toArray, List.set_cons_zero, List.set_cons_succ]
    refine wpList_run (v := .bool false) (wanted_none rfl) (ptr_nnQ rfl rfl rfl rfl) ?_
    simp only [Act.put, List.setIfInBounds_toArray, List.set_cons_zero, List.set_cons_succ]
    go_upto_region 8 with fail
    refine wp_region_lit ?_
    refine wpList_run (v := .pointer (some ⟨x, 0, none⟩)) (wanted_none rfl) (exec_move rfl rfl) ?_
    simp only [Act.put, List.setIfInBounds_toArray, List.set_cons_zero, List.set_cons_succ]
    refine wpList_op rfl fun K9 HK9 => ?_
    go_wp2_with fail
    refine (HCX.out).mono ?_
    rintro e w4 ⟨z, F2, rfl, hp, ht, hF⟩
    refine HK9.out _ _ ?_
    clear HK9
    try simp only [Act.put, List.setIfInBounds_toArray, List.set_cons_zero, List.set_cons_succ]
    have HPZ := Lib.hid hp
    have HFZ := Lib.hid hF
    have HT34 := Lib.hid ht
    have HT4 := Lib.hid (HT3.out.trans ht fun _ _ e => e)
    have HCY := Lib.hid (RAt.clone (HPY.out.still ht) (show 0 < 1099511627776 by decide))
    clear ht hp hF HCX
    refine wpList_run (v := .pointer (some ⟨z, 0, none⟩)) (wanted_none rfl) (gx_assign rfl rfl) ?_
    simp only [Act.put, List.setIfInBounds_toArray, List.set_cons_zero, List.set_cons_succ]
    go_upto_region 9 with fail
    refine wp_region_lit ?_
    refine wpList_run (v := .pointer (some ⟨y, 0, none⟩)) (wanted_none rfl) (exec_move rfl rfl) ?_
    simp only [Act.put, List.setIfInBounds_toArray, List.set_cons_zero, List.set_cons_succ]
    refine wpList_op rfl fun K9 HK9 => ?_
    go_wp2_with fail
    refine (HCY.out).mono ?_
    rintro e w5 ⟨u, G2, Z2, rfl, hp, hG, hZ, ht⟩
    refine HK9.out _ _ ?_
    clear HK9
    try simp only [Act.put, List.setIfInBounds_toArray, List.set_cons_zero, List.set_cons_succ]
    have HQ0 := Lib.hid (Qd.init HPX.out HFX.out HT12.out HPY.out HT23.out HGX.out HZX.out HPZ.out HT34.out HFZ.out hp ht hG hZ)
    have HQ1 := Lib.hid (show Qd w5 (LB w) 0 x F (AP.new zs) y G Z (RP.new zs) z F2 (AP.new zs) u G2 Z2 (RP.new zs) from HQ0.out.less fun b hb => Nat.lt_of_lt_of_le hb HT1.out.size)
    have HT5 := Lib.hid (HT4.out.trans ht fun _ _ e => e)
    have HG0 := Lib.hid (show Gd (AP.new zs) (RP.new zs) 0 from Gd.of HPX.out (Lk.new fun z hz => (HSZ.out.2.2 z hz).1) (Nat.le_refl _))
    clear hp hG hZ ht HCY HQ0 HPX HFX HT12 HPY HT23 HGX HZX HPZ HT34 HFZ HT1 HT2 HT3 HT4
    refine wpList_run (v := .pointer (some ⟨u, 0, none⟩)) (wanted_none rfl) (gx_assign rfl rfl) ?_
    simp only [Act.put, List.setIfInBounds_toArray, List.set_cons_zero, List.set_cons_succ]
    go_upto_region 10 with fail
    refine wp_region_lit ?_
    refine wpList_run (v := .pointer (some ⟨z, 0, none⟩)) (wanted_none rfl) (exec_move rfl rfl) ?_
    simp only [Act.put, List.setIfInBounds_toArray, List.set_cons_zero, List.set_cons_succ]
    refine wpList_run (v := .bool false) (wanted_none rfl) (ptr_nnP rfl rfl rfl rfl) ?_
    simp only [Act.put, List.setIfInBounds_toArray, List.set_cons_zero, List.set_cons_succ]
    go_upto_region 12 with fail
    refine wp_region_lit ?_
    refine wpList_run (v := .int .i64 0) (wanted_none rfl) (gx_assign rfl rfl) ?_
    simp only [Act.put, List.setIfInBounds_toArray, List.set_cons_zero, List.set_cons_succ]
    go_wp2_with fail
    go_loopg [6, 8, 10, 11, 12, 13, 14, 15, 16, 17, 18, 19, 20, 21, 22, 23, 24, 25, 26, 27] n2 (fun gk xv yv zv uv iv s13 s14 s15 s16 s17 s18 s19 s20 s21 s22 s23 s24 s25 s26 s27 wr => ∃ (i : Nat) (x y z u : Nat) (F G Z F2 G2 Z2 : Nat → Prop) (s s2 : AP) (a a2 : RP), iv = .int .i64 (i : Int) ∧ xv = .pointer (some ⟨x, 0, none⟩) ∧ yv = .pointer (some ⟨y, 0, none⟩) ∧ zv = .pointer (some ⟨z, 0, none⟩) ∧ uv = .pointer (some ⟨u, 0, none⟩) ∧ i + gk = n2 ∧ Qd wr (LB w) i x F s y G Z a z F2 s2 u G2 Z2 a2 ∧ Gd s a i ∧ Gd s2 a2 i ∧ Turn nowhere w wr)
    case atStart => exact ⟨0, x, y, z, u, F, G, Z, F2, G2, Z2, _, _, _, _, rfl, rfl, rfl, rfl, rfl, by omega, HQ1.out, HG0.out, HG0.out, HT5.out⟩
    clear HQ1 HG0 HT5 HSZ
    obtain ⟨i, x, y, z, u, F, G, Z, F2, G2, Z2, s, s2, a, a2, rfl, rfl, rfl, rfl, rfl, hgk, hq, hg, hg2, htr⟩ := hrel
    have HGK := Lib.hid hgk
    have HQ := Lib.hid hq
    have HG := Lib.hid hg
    have HG2 := Lib.hid hg2
    have HTR := Lib.hid htr
    have yi : (i : Int) ≤ (n2 : Int) := by omega
    have yi2 : i ≤ 1048576 := by have := HN2.out; omega
    clear hgk hq hg hg2 htr
    by_cases hlt : i < n2
    · have HLT := Lib.hid hlt
      have y3 : (i : Int) < (n2 : Int) := by omega
      obtain ⟨o, ho⟩ := getQ' (l := os) (i := i) (by have := HKN.out; omega)
      obtain ⟨b2, o2, e2, _⟩ := HK.out.1.at_ (i := i) (r := o.cells) (by rw [List.getElem?_map, ho]; rfl)
      subst e2
      have HRG := Lib.hid (HK.out.rng HTR.out ho)
      have HOK := Lib.hid (HK.out.2 o (List.mem_of_getElem? ho))
      clear ho hlt
      go_upto_region 13 with fail
      refine wp_region_lit ?_
      refine wpList_run (v := .int .i64 (i : Int)) (wanted_none rfl) (exec_move rfl rfl) ?_
      simp only [Act.put, List.setIfInBounds_toArray, List.set_cons_zero, List.set_cons_succ]
      refine wpList_run (v := .slice (some ⟨b2, o2, none⟩) n2 c2) (wanted_none rfl) (exec_move rfl rfl) ?_
      simp only [Act.put, List.setIfInBounds_toArray, List.set_cons_zero, List.set_cons_succ]
      refine wpList_run (v := .int .i64 (n2 : Int)) (wanted_none rfl) (gx_len rfl rfl Try.underlying23) ?_
      simp only [Act.put, List.setIfInBounds_toArray, List.set_cons_zero, List.set_cons_succ]
      refine wpList_run (v := .bool true) (wanted_none rfl) (ix_lss rfl rfl rfl (decide_eq_true y3)) ?_
      simp only [Act.put, List.setIfInBounds_toArray, List.set_cons_zero, List.set_cons_succ]
      go_upto_region 15 with fail
      refine wp_region_lit ?_
      refine wpList_run (v := .slice (some ⟨b2, o2, none⟩) n2 c2) (wanted_none rfl) (exec_move rfl rfl) ?_
      simp only [Act.put, List.setIfInBounds_toArray, List.set_cons_zero, List.set_cons_succ]
      refine wpList_run (v := .int .i64 (i : Int)) (wanted_none rfl) (exec_move rfl rfl) ?_
      simp only [Act.put, List.setIfInBounds_toArray, List.set_cons_zero, List.set_cons_succ]
      refine wpList_run (v := .pointer (some ⟨b2, o2 + i * 6, none⟩)) (wanted_none rfl) (gx_iaddr (i := i) (sz := 6) rfl rfl rfl Try.underlying23 size_op6 HLT.out rfl) ?_
      simp only [Act.put, List.setIfInBounds_toArray, List.set_cons_zero, List.set_cons_succ]
      refine wpList_run (v := .agg o.arr) (wanted_none rfl) (gx_loads rfl rfl HRG.out Try.underlying35 rfl (by rw [size_op6]; rfl)) ?_
      simp only [Act.put, List.setIfInBounds_toArray, List.set_cons_zero, List.set_cons_succ]
      refine wpList_new 35 (.tmp 13) (.tmp 73) o.arr rfl rfl (zero_op6 _) rfl rfl rfl rfl rfl rfl (by rw [size_op6]; rfl) o.one ?_
      intro w8 g7 hge hbg ht8
      simp only [Act.put, List.setIfInBounds_toArray, List.set_cons_zero, List.set_cons_succ]
      have HB7a := Lib.hid hbg
      have HQ7 := Lib.hid (HQ.out.keep ht8 hge hbg.lt)
      have HT7 := Lib.hid (HTR.out.trans ht8 fun _ _ e => e)
      have HSC := Lib.hid (sector_walk o.kind o.dev o.place o.n o.c o.A o.m o.cp w8)
      clear hge hbg ht8 HQ HTR HRG
      go_upto_region 16 with fail
      refine wp_region_lit ?_
      refine wpList_run (v := .agg o.arr) (wanted_none rfl) (gx_loads rfl rfl (blk_range HB7a.out) Try.underlying35 rfl (by rw [size_op6]; rfl)) ?_
      simp only [Act.put, List.setIfInBounds_toArray, List.set_cons_zero, List.set_cons_succ]
      refine wpList_op rfl fun K9 HK9 => ?_
      go_wp2_with fail
      refine (HSC.out).mono ?_
      rintro e w9 ⟨g8, rfl, hge, hb8, ht⟩
      refine HK9.out _ _ ?_
      clear HK9
      try simp only [Act.put, List.setIfInBounds_toArray, List.set_cons_zero, List.set_cons_succ]
      have HB8 := Lib.hid hb8
      have HQ8 := Lib.hid (show Qd w9 (LP w g7 g8) i x F s y G Z a z F2 s2 u G2 Z2 a2 from HQ7.out.keep ht hge hb8.lt)
      have HT8 := Lib.hid (HT7.out.trans ht fun _ _ e => e)
      have HB7 := Lib.hid (HB7a.out.turn ht fun e => e)
      have HKW := Lib.hid (kind_walk o.kind w9 HOK.out.k)
      have HG8N := Lib.hid (show w.heap.size ≤ g8 from Nat.le_trans HT7.out.size hge)
      have HG78 := Lib.hid (show g7 ≠ g8 from by have := HB7a.out.lt; omega)
      clear hge hb8 ht HSC HQ7 HT7 HB7a
      refine wpList_run (v := .slice (some ⟨g8, 0, none⟩) 64 64) (wanted_none rfl) (gx_assign rfl rfl) ?_
      simp only [Act.put, List.setIfInBounds_toArray, List.set_cons_zero, List.set_cons_succ]
      go_upto_region 17 with fail
      refine wp_region_lit ?_
      refine wpList_run (v := .pointer (some ⟨g7, 0, none⟩)) (wanted_none rfl) (exec_field (off := 0) (d := 0) rfl rfl (by kernel_rfl)) ?_
      simp only [Act.put, List.setIfInBounds_toArray, List.set_cons_zero, List.set_cons_succ]
      refine wpList_run (v := .int .i64 o.kind) (wanted_none rfl) (exec_load1 rfl rfl (by kernel_rfl) (HB7.out.cell 0)) ?_
      simp only [Act.put, List.setIfInBounds_toArray, List.set_cons_zero, List.set_cons_succ]
      refine wpList_op rfl fun K9 HK9 => ?_
      go_wp2_with fail
      refine (HKW.out).mono ?_
      rintro e w10 ⟨km, rfl, hkm, hw⟩
      refine HK9.out _ _ ?_
      clear HK9
      try simp only [Act.put, List.setIfInBounds_toArray, List.set_cons_zero, List.set_cons_succ]
      subst hw
      go_upto_block 2 with fail
      go_cut [6, 8, 10, 11, 15, 16, 17, 18, 19, 20, 21, 22, 23, 24] from 79 to 198 (fun xv yv zv uv s15 s16 s17 s18 s19 s20 s21 s22 s23 s24 wx => ∃ (x y z u : Nat) (F G Z F2 G2 Z2 : Nat → Prop) (s s2 : AP) (a a2 : RP), xv = .pointer (some ⟨x, 0, none⟩) ∧ yv = .pointer (some ⟨y, 0, none⟩) ∧ zv = .pointer (some ⟨z, 0, none⟩) ∧ uv = .pointer (some ⟨u, 0, none⟩) ∧ Qd wx (LP w g7 g8) (i + 1) x F s y G Z a z F2 s2 u G2 Z2 a2 ∧ Gd s a (i + 1) ∧ Gd s2 a2 (i + 1) ∧ Blk wx g7 35 o.arr ∧ Blk wx g8 5 (bcs (secO o.c o.place o.n).1).toArray ∧ Turn nowhere w wx)
      case first =>
        rcases (by omega : km = 0 ∨ km = 1 ∨ km = 2 ∨ km = 3 ∨ km = 4 ∨ km = 5 ∨ km = 6 ∨ km = 7 ∨ km = 8 ∨ km = 9) with rfl | rfl | rfl | rfl | rfl | rfl | rfl | rfl | rfl | rfl
        · go_upto_region 18 with fail
          refine wp_region_lit ?_
          refine wpList_run (v := .bool true) (wanted_none rfl) (ix_eql rfl rfl rfl (by decide)) ?_
          simp only [Act.put, List.setIfInBounds_toArray, List.set_cons_zero, List.set_cons_succ]
          refine wpList_run (v := .bool true) (wanted_none rfl) (gx_assign rfl rfl) ?_
          simp only [Act.put, List.setIfInBounds_toArray, List.set_cons_zero, List.set_cons_succ]
          clear hkm HKW
          as_aux_lemma =>
            have HB78 := Lib.hid HB7.out
            have HB88 := Lib.hid HB8.out
            obtain ⟨ec, s', a', hlk, hlr, hwx, hwy⟩ := wr_both HG.out (by omega) o.dev o.place 64 (secO o.c o.place o.n)
            have HLK := Lib.hid hlk
            have HLR := Lib.hid hlr
            have HWY := Lib.hid hwy
            have HWX := Lib.hid (hwx w9 x F (some ⟨g8, 0, none⟩) 64 HQ8.out.px fun _ => bs_blk HB8.out (secO o.c o.place o.n).2 (by unfold maxLen; omega))
            clear hlk hlr hwx hwy
            go_upto_region 21 with fail
            refine wp_region_lit ?_
            refine wpList_run (v := .pointer (some ⟨x, 0, none⟩)) (wanted_none rfl) (exec_move rfl rfl) ?_
            simp only [Act.put, List.setIfInBounds_toArray, List.set_cons_zero, List.set_cons_succ]
            refine wpList_run (v := .pointer (some ⟨g7, 1, none⟩)) (wanted_none rfl) (exec_field (off := 0) (d := 1) rfl rfl (by kernel_rfl)) ?_
            simp only [Act.put, List.setIfInBounds_toArray, List.set_cons_zero, List.set_cons_succ]
            refine wpList_run (v := .int .i64 o.dev) (wanted_none rfl) (exec_load1 rfl rfl (by kernel_rfl) (HB7.out.cell 1)) ?_
            simp only [Act.put, List.setIfInBounds_toArray, List.set_cons_zero, List.set_cons_succ]
            refine wpList_run (v := .pointer (some ⟨g7, 2, none⟩)) (wanted_none rfl) (exec_field (off := 0) (d := 2) rfl rfl (by kernel_rfl)) ?_
            simp only [Act.put, List.setIfInBounds_toArray, List.set_cons_zero, List.set_cons_succ]
            refine wpList_run (v := .int .i64 o.place) (wanted_none rfl) (exec_load1 rfl rfl (by kernel_rfl) (HB7.out.cell 2)) ?_
            simp only [Act.put, List.setIfInBounds_toArray, List.set_cons_zero, List.set_cons_succ]
            refine wpList_run (v := .slice (some ⟨g8, 0, none⟩) 64 64) (wanted_none rfl) (exec_move rfl rfl) ?_
            simp only [Act.put, List.setIfInBounds_toArray, List.set_cons_zero, List.set_cons_succ]
            refine wpList_op rfl fun K9 HK9 => ?_
            go_wp2_with fail
            refine (HWX.out).mono ?_
            rintro e w10 ⟨rfl, hg⟩
            refine HK9.out _ _ ?_
            clear HK9
            try simp only [Act.put, List.setIfInBounds_toArray, List.set_cons_zero, List.set_cons_succ]
            obtain ⟨F', hq, ht⟩ := HQ8.out.gx hg (Nat.le_succ i)
            have HQ10 := Lib.hid hq
            have HT10 := Lib.hid (kept_old HT8.out ht)
            have HB710 := Lib.hid (kept_7 HB78.out ht)
            have HB810 := Lib.hid (kept_8 HB88.out ht)
            have HGN := Lib.hid (show Gd s' a' (i + 1) from Gd.of hq.px HLK.out HLR.out)
            clear hg hq ht
            clear HWX
            refine wpList_run (v := .int .i64 ec) (wanted_none rfl) (gx_assign rfl rfl) ?_
            simp only [Act.put, List.setIfInBounds_toArray, List.set_cons_zero, List.set_cons_succ]
            obtain ⟨wd, hwd⟩ : ∃ v, v = w10.drew := ⟨_, rfl⟩
            have htd : Turn nowhere w10 wd := by rw [hwd]; exact (Turn.refl _ _).drew
            have HQD := Lib.hid (HQ10.out.still htd)
            have HTD := Lib.hid (HT10.out.trans htd fun _ _ e => e)
            have HB7D := Lib.hid (HB710.out.turn htd fun e => e)
            have HB8D := Lib.hid (HB810.out.turn htd fun e => e)
            have HSC := Lib.hid (sector_walk o.kind o.dev o.place o.n o.c o.A o.m o.cp wd)
            clear htd
            go_upto_region 22 with fail
            refine wp_region_alw (fun W => Blk W g7 35 o.arr) (by kernel_rfl) ?_
            rw [← hwd]
            have hS0 := HB7D.out
            clear hwd
            refine alw_take (i := 0) (v := .pointer (some ⟨y, 0, none⟩)) rfl (by kernel_rfl) (by kernel_rfl) (fun _ _ _ h => h) (.inl ⟨by rfl, fun W hW => exec_move rfl rfl⟩) hS0 ?_
            simp only [Act.put, List.setIfInBounds_toArray, List.set_cons_zero, List.set_cons_succ]
            refine alw_take (i := 1) (v := .pointer (some ⟨g7, 1, none⟩)) rfl (by kernel_rfl) (by kernel_rfl) (fun _ _ _ h => h) (.inl ⟨by rfl, fun W hW => exec_field (off := 0) (d := 1) rfl rfl (by kernel_rfl)⟩) hS0 ?_
            simp only [Act.put, List.setIfInBounds_toArray, List.set_cons_zero, List.set_cons_succ]
            refine alw_take (i := 2) (v := .int .i64 o.dev) rfl (by kernel_rfl) (by kernel_rfl) (fun _ _ _ h => h) (.inl ⟨by rfl, fun W hW => exec_load1 rfl rfl (by kernel_rfl) (hW.cell 1)⟩) hS0 ?_
            simp only [Act.put, List.setIfInBounds_toArray, List.set_cons_zero, List.set_cons_succ]
            refine alw_take (i := 3) (v := .pointer (some ⟨g7, 2, none⟩)) rfl (by kernel_rfl) (by kernel_rfl) (fun _ _ _ h => h) (.inl ⟨by rfl, fun W hW => exec_field (off := 0) (d := 2) rfl rfl (by kernel_rfl)⟩) hS0 ?_
            simp only [Act.put, List.setIfInBounds_toArray, List.set_cons_zero, List.set_cons_succ]
            refine alw_take (i := 4) (v := .int .i64 o.place) rfl (by kernel_rfl) (by kernel_rfl) (fun _ _ _ h => h) (.inl ⟨by rfl, fun W hW => exec_load1 rfl rfl (by kernel_rfl) (hW.cell 2)⟩) hS0 ?_
            simp only [Act.put, List.setIfInBounds_toArray, List.set_cons_zero, List.set_cons_succ]
            refine alw_take (i := 5) (v := .agg o.arr) rfl (by kernel_rfl) (by kernel_rfl) (fun _ _ _ h => h) (.inl ⟨by rfl, fun W hW => gx_loads rfl rfl (blk_range hW) Try.underlying35 rfl (by rw [size_op6]; rfl)⟩) hS0 ?_
            simp only [Act.put, List.setIfInBounds_toArray, List.set_cons_zero, List.set_cons_succ]
            refine alw_step (i := 6) (by kernel_rfl) rfl rfl ?_
            intro K1 HK1
            go_wp2_with fail
            refine (HSC.out).mono ?_
            rintro e w11 ⟨g9, rfl, hge, hb9, ht⟩

            refine HK1.out _ _ ⟨hS0.turn ht fun e => e, ?_⟩
            clear HK1
            try simp only [Act.put, List.setIfInBounds_toArray, List.set_cons_zero, List.set_cons_succ]
            have HQ11 := Lib.hid (HQD.out.still ht)
            have HT11 := Lib.hid (HTD.out.trans ht fun _ _ e => e)
            have HB711 := Lib.hid (HB7D.out.turn ht fun e => e)
            have HB811 := Lib.hid (HB8D.out.turn ht fun e => e)
            have HWY1 := Lib.hid (HWY.out w11 y G Z (some ⟨g9, 0, none⟩) 64 HQ11.out.py fun _ => ⟨bs_blk hb9 (secO o.c o.place o.n).2 (by unfold maxLen; omega), fun b' off s' e => by
              injection e with e
              injection e with e1 e2 e3
              subst e1
              have := HQD.out.py.lt HQD.out.py.self
              omega⟩)
            clear hge hb9 ht HSC HWY hS0
            refine alw_step (i := 7) (by kernel_rfl) rfl rfl ?_
            intro K1 HK1
            go_wp2_with fail
            refine (HWY1.out).mono ?_
            rintro e w12 ⟨rfl, hg⟩
            obtain ⟨G', Z', hq, ht⟩ := HQ11.out.ry hg
            have HKT := Lib.hid ht
            refine HK1.out _ _ ⟨kept_7 HB711.out HKT.out, ?_⟩
            clear HK1
            try simp only [Act.put, List.setIfInBounds_toArray, List.set_cons_zero, List.set_cons_succ]
            have HQ12 := Lib.hid hq
            have HT12 := Lib.hid (kept_old HT11.out ht)
            have HB712 := Lib.hid (kept_7 HB711.out ht)
            have HB812 := Lib.hid (kept_8 HB811.out ht)
            have hS0 := HB712.out
            clear hg hq ht HWY1
            refine alw_take (i := 8) (v := .int .i64 ec) rfl (by kernel_rfl) (by kernel_rfl) (fun _ _ _ h => h) (.inl ⟨by rfl, fun W hW => gx_assign rfl rfl⟩) hS0 ?_
            simp only [Act.put, List.setIfInBounds_toArray, List.set_cons_zero, List.set_cons_succ]
            refine alw_done rfl ?_
            refine NoPanic.normal ?_
            clear hS0
            try simp only [Act.put, List.setIfInBounds_toArray, List.set_cons_zero, List.set_cons_succ]
            go_upto_region 23 with fail
            refine wp_region_lit ?_
            refine wpList_run (v := .int .i64 ec) (wanted_none rfl) (exec_move rfl rfl) ?_
            simp only [Act.put, List.setIfInBounds_toArray, List.set_cons_zero, List.set_cons_succ]
            refine wpList_run (v := .int .i64 ec) (wanted_none rfl) (exec_move rfl rfl) ?_
            simp only [Act.put, List.setIfInBounds_toArray, List.set_cons_zero, List.set_cons_succ]
            refine wpList_run (v := .bool false) (wanted_none rfl) (ix_neq rfl rfl rfl (decide_eq_false (fun h => h rfl))) ?_
            simp only [Act.put, List.setIfInBounds_toArray, List.set_cons_zero, List.set_cons_succ]
            go_wp2_with fail
            go_meet
            exact ⟨x, y, z, u, F', G', Z', F2, G2, Z2, s', s2, a', a2, rfl, rfl, rfl, rfl, HQ12.out, HGN.out, HG2.out.mono (Nat.le_succ i), HB712.out, HB812.out, HT12.out⟩
        · go_upto_region 18 with fail
          refine wp_region_lit ?_
          refine wpList_run (v := .bool false) (wanted_none rfl) (ix_eql rfl rfl rfl (by decide)) ?_
          simp only [Act.put, List.setIfInBounds_toArray, List.set_cons_zero, List.set_cons_succ]
          refine wpList_run (v := .bool false) (wanted_none rfl) (gx_assign rfl rfl) ?_
          simp only [Act.put, List.setIfInBounds_toArray, List.set_cons_zero, List.set_cons_succ]
          go_upto_region 19 with fail
          refine wp_region_lit ?_
          refine wpList_run (v := .bool true) (wanted_none rfl) (ix_eql rfl rfl rfl (by decide)) ?_
          simp only [Act.put, List.setIfInBounds_toArray, List.set_cons_zero, List.set_cons_succ]
          refine wpList_run (v := .bool true) (wanted_none rfl) (gx_assign rfl rfl) ?_
          simp only [Act.put, List.setIfInBounds_toArray, List.set_cons_zero, List.set_cons_succ]
          clear hkm HKW
          as_aux_lemma =>
            have HB78 := Lib.hid HB7.out
            have HB88 := Lib.hid HB8.out
            obtain ⟨ec, s', a', hlk, hlr, hwx, hwy⟩ := wr_both HG.out (by omega) o.dev o.place 64 (secO o.c o.place o.n)
            have HLK := Lib.hid hlk
            have HLR := Lib.hid hlr
            have HWY := Lib.hid hwy
            have HWX := Lib.hid (hwx w9 x F (some ⟨g8, 0, none⟩) 64 HQ8.out.px fun _ => bs_blk HB8.out (secO o.c o.place o.n).2 (by unfold maxLen; omega))
            clear hlk hlr hwx hwy
            go_upto_region 21 with fail
            refine wp_region_lit ?_
            refine wpList_run (v := .pointer (some ⟨x, 0, none⟩)) (wanted_none rfl) (exec_move rfl rfl) ?_
            simp only [Act.put, List.setIfInBounds_toArray, List.set_cons_zero, List.set_cons_succ]
            refine wpList_run (v := .pointer (some ⟨g7, 1, none⟩)) (wanted_none rfl) (exec_field (off := 0) (d := 1) rfl rfl (by kernel_rfl)) ?_
            simp only [Act.put, List.setIfInBounds_toArray, List.set_cons_zero, List.set_cons_succ]
            refine wpList_run (v := .int .i64 o.dev) (wanted_none rfl) (exec_load1 rfl rfl (by kernel_rfl) (HB7.out.cell 1)) ?_
            simp only [Act.put, List.setIfInBounds_toArray, List.set_cons_zero, List.set_cons_succ]
            refine wpList_run (v := .pointer (some ⟨g7, 2, none⟩)) (wanted_none rfl) (exec_field (off := 0) (d := 2) rfl rfl (by kernel_rfl)) ?_
            simp only [Act.put, List.setIfInBounds_toArray, List.set_cons_zero, List.set_cons_succ]
            refine wpList_run (v := .int .i64 o.place) (wanted_none rfl) (exec_load1 rfl rfl (by kernel_rfl) (HB7.out.cell 2)) ?_
            simp only [Act.put, List.setIfInBounds_toArray, List.set_cons_zero, List.set_cons_succ]
            refine wpList_run (v := .slice (some ⟨g8, 0, none⟩) 64 64) (wanted_none rfl) (exec_move rfl rfl) ?_
            simp only [Act.put, List.setIfInBounds_toArray, List.set_cons_zero, List.set_cons_succ]
            refine wpList_op rfl fun K9 HK9 => ?_
            go_wp2_with fail
            refine (HWX.out).mono ?_
            rintro e w10 ⟨rfl, hg⟩
            refine HK9.out _ _ ?_
            clear HK9
            try simp only [Act.put, List.setIfInBounds_toArray, List.set_cons_zero, List.set_cons_succ]
            obtain ⟨F', hq, ht⟩ := HQ8.out.gx hg (Nat.le_succ i)
            have HQ10 := Lib.hid hq
            have HT10 := Lib.hid (kept_old HT8.out ht)
            have HB710 := Lib.hid (kept_7 HB78.out ht)
            have HB810 := Lib.hid (kept_8 HB88.out ht)
            have HGN := Lib.hid (show Gd s' a' (i + 1) from Gd.of hq.px HLK.out HLR.out)
            clear hg hq ht
            clear HWX
            refine wpList_run (v := .int .i64 ec) (wanted_none rfl) (gx_assign rfl rfl) ?_
            simp only [Act.put, List.setIfInBounds_toArray, List.set_cons_zero, List.set_cons_succ]
            obtain ⟨wd, hwd⟩ : ∃ v, v = w10.drew := ⟨_, rfl⟩
            have htd : Turn nowhere w10 wd := by rw [hwd]; exact (Turn.refl _ _).drew
            have HQD := Lib.hid (HQ10.out.still htd)
            have HTD := Lib.hid (HT10.out.trans htd fun _ _ e => e)
            have HB7D := Lib.hid (HB710.out.turn htd fun e => e)
            have HB8D := Lib.hid (HB810.out.turn htd fun e => e)
            have HSC := Lib.hid (sector_walk o.kind o.dev o.place o.n o.c o.A o.m o.cp wd)
            clear htd
            go_upto_region 22 with fail
            refine wp_region_alw (fun W => Blk W g7 35 o.arr) (by kernel_rfl) ?_
            rw [← hwd]
            have hS0 := HB7D.out
            clear hwd
            refine alw_take (i := 0) (v := .pointer (some ⟨y, 0, none⟩)) rfl (by kernel_rfl) (by kernel_rfl) (fun _ _ _ h => h) (.inl ⟨by rfl, fun W hW => exec_move rfl rfl⟩) hS0 ?_
            simp only [Act.put, List.setIfInBounds_toArray, List.set_cons_zero, List.set_cons_succ]
            refine alw_take (i := 1) (v := .pointer (some ⟨g7, 1, none⟩)) rfl (by kernel_rfl) (by kernel_rfl) (fun _ _ _ h => h) (.inl ⟨by rfl, fun W hW => exec_field (off := 0) (d := 1) rfl rfl (by kernel_rfl)⟩) hS0 ?_
            simp only [Act.put, List.setIfInBounds_toArray, List.set_cons_zero, List.set_cons_succ]
            refine alw_take (i := 2) (v := .int .i64 o.dev) rfl (by kernel_rfl) (by kernel_rfl) (fun _ _ _ h => h) (.inl ⟨by rfl, fun W hW => exec_load1 rfl rfl (by kernel_rfl) (hW.cell 1)⟩) hS0 ?_
            simp only [Act.put, List.setIfInBounds_toArray, List.set_cons_zero, List.set_cons_succ]
            refine alw_take (i := 3) (v := .pointer (some ⟨g7, 2, none⟩)) rfl (by kernel_rfl) (by kernel_rfl) (fun _ _ _ h => h) (.inl ⟨by rfl, fun W hW => exec_field (off := 0) (d := 2) rfl rfl (by kernel_rfl)⟩) hS0 ?_
            simp only [Act.put, List.setIfInBounds_toArray, List.set_cons_zero, List.set_cons_succ]
            refine alw_take (i := 4) (v := .int .i64 o.place) rfl (by kernel_rfl) (by kernel_rfl) (fun _ _ _ h => h) (.inl ⟨by rfl, fun W hW => exec_load1 rfl rfl (by kernel_rfl) (hW.cell 2)⟩) hS0 ?_
            simp only [Act.put, List.setIfInBounds_toArray, List.set_cons_zero, List.set_cons_succ]
            refine alw_take (i := 5) (v := .agg o.arr) rfl (by kernel_rfl) (by kernel_rfl) (fun _ _ _ h => h) (.inl ⟨by rfl, fun W hW => gx_loads rfl rfl (blk_range hW) Try.underlying35 rfl (by rw [size_op6]; rfl)⟩) hS0 ?_
            simp only [Act.put, List.setIfInBounds_toArray, List.set_cons_zero, List.set_cons_succ]
            refine alw_step (i := 6) (by kernel_rfl) rfl rfl ?_
            intro K1 HK1
            go_wp2_with fail
            refine (HSC.out).mono ?_
            rintro e w11 ⟨g9, rfl, hge, hb9, ht⟩

            refine HK1.out _ _ ⟨hS0.turn ht fun e => e, ?_⟩
            clear HK1
            try simp only [Act.put, List.setIfInBounds_toArray, List.set_cons_zero, List.set_cons_succ]
            have HQ11 := Lib.hid (HQD.out.still ht)
            have HT11 := Lib.hid (HTD.out.trans ht fun _ _ e => e)
            have HB711 := Lib.hid (HB7D.out.turn ht fun e => e)
            have HB811 := Lib.hid (HB8D.out.turn ht fun e => e)
            have HWY1 := Lib.hid (HWY.out w11 y G Z (some ⟨g9, 0, none⟩) 64 HQ11.out.py fun _ => ⟨bs_blk hb9 (secO o.c o.place o.n).2 (by unfold maxLen; omega), fun b' off s' e => by
              injection e with e
              injection e with e1 e2 e3
              subst e1
              have := HQD.out.py.lt HQD.out.py.self
              omega⟩)
            clear hge hb9 ht HSC HWY hS0
            refine alw_step (i := 7) (by kernel_rfl) rfl rfl ?_
            intro K1 HK1
            go_wp2_with fail
            refine (HWY1.out).mono ?_
            rintro e w12 ⟨rfl, hg⟩
            obtain ⟨G', Z', hq, ht⟩ := HQ11.out.ry hg
            have HKT := Lib.hid ht
            refine HK1.out _ _ ⟨kept_7 HB711.out HKT.out, ?_⟩
            clear HK1
            try simp only [Act.put, List.setIfInBounds_toArray, List.set_cons_zero, List.set_cons_succ]
            have HQ12 := Lib.hid hq
            have HT12 := Lib.hid (kept_old HT11.out ht)
            have HB712 := Lib.hid (kept_7 HB711.out ht)
            have HB812 := Lib.hid (kept_8 HB811.out ht)
            have hS0 := HB712.out
            clear hg hq ht HWY1
            refine alw_take (i := 8) (v := .int .i64 ec) rfl (by kernel_rfl) (by kernel_rfl) (fun _ _ _ h => h) (.inl ⟨by rfl, fun W hW => gx_assign rfl rfl⟩) hS0 ?_
            simp only [Act.put, List.setIfInBounds_toArray, List.set_cons_zero, List.set_cons_succ]
            refine alw_done rfl ?_
            refine NoPanic.normal ?_
            clear hS0
            try simp only [Act.put, List.setIfInBounds_toArray, List.set_cons_zero, List.set_cons_succ]
            go_upto_region 23 with fail
            refine wp_region_lit ?_
            refine wpList_run (v := .int .i64 ec) (wanted_none rfl) (exec_move rfl rfl) ?_
            simp only [Act.put, List.setIfInBounds_toArray, List.set_cons_zero, List.set_cons_succ]
            refine wpList_run (v := .int .i64 ec) (wanted_none rfl) (exec_move rfl rfl) ?_
            simp only [Act.put, List.setIfInBounds_toArray, List.set_cons_zero, List.set_cons_succ]
            refine wpList_run (v := .bool false) (wanted_none rfl) (ix_neq rfl rfl rfl (decide_eq_false (fun h => h rfl))) ?_
            simp only [Act.put, List.setIfInBounds_toArray, List.set_cons_zero, List.set_cons_succ]
            go_wp2_with fail
            go_meet
            exact ⟨x, y, z, u, F', G', Z', F2, G2, Z2, s', s2, a', a2, rfl, rfl, rfl, rfl, HQ12.out, HGN.out, HG2.out.mono (Nat.le_succ i), HB712.out, HB812.out, HT12.out⟩
        · go_upto_region 18 with fail
          refine wp_region_lit ?_
          refine wpList_run (v := .bool false) (wanted_none rfl) (ix_eql rfl rfl rfl (by decide)) ?_
          simp only [Act.put, List.setIfInBounds_toArray, List.set_cons_zero, List.set_cons_succ]
          refine wpList_run (v := .bool false) (wanted_none rfl) (gx_assign rfl rfl) ?_
          simp only [Act.put, List.setIfInBounds_toArray, List.set_cons_zero, List.set_cons_succ]
          go_upto_region 19 with fail
          refine wp_region_lit ?_
          refine wpList_run (v := .bool false) (wanted_none rfl) (ix_eql rfl rfl rfl (by decide)) ?_
          simp only [Act.put, List.setIfInBounds_toArray, List.set_cons_zero, List.set_cons_succ]
          refine wpList_run (v := .bool false) (wanted_none rfl) (gx_assign rfl rfl) ?_
          simp only [Act.put, List.setIfInBounds_toArray, List.set_cons_zero, List.set_cons_succ]
          go_upto_region 20 with fail
          refine wp_region_lit ?_
          refine wpList_run (v := .bool true) (wanted_none rfl) (ix_eql rfl rfl rfl (by decide)) ?_
          simp only [Act.put, List.setIfInBounds_toArray, List.set_cons_zero, List.set_cons_succ]
          refine wpList_run (v := .bool true) (wanted_none rfl) (gx_assign rfl rfl) ?_
          simp only [Act.put, List.setIfInBounds_toArray, List.set_cons_zero, List.set_cons_succ]
          clear hkm HKW
          as_aux_lemma =>
            have HB78 := Lib.hid HB7.out
            have HB88 := Lib.hid HB8.out
            obtain ⟨ec, s', a', hlk, hlr, hwx, hwy⟩ := wr_both HG.out (by omega) o.dev o.place 64 (secO o.c o.place o.n)
            have HLK := Lib.hid hlk
            have HLR := Lib.hid hlr
            have HWY := Lib.hid hwy
            have HWX := Lib.hid (hwx w9 x F (some ⟨g8, 0, none⟩) 64 HQ8.out.px fun _ => bs_blk HB8.out (secO o.c o.place o.n).2 (by unfold maxLen; omega))
            clear hlk hlr hwx hwy
            go_upto_region 21 with fail
            refine wp_region_lit ?_
            refine wpList_run (v := .pointer (some ⟨x, 0, none⟩)) (wanted_none rfl) (exec_move rfl rfl) ?_
            simp only [Act.put, List.setIfInBounds_toArray, List.set_cons_zero, List.set_cons_succ]
            refine wpList_run (v := .pointer (some ⟨g7, 1, none⟩)) (wanted_none rfl) (exec_field (off := 0) (d := 1) rfl rfl (by kernel_rfl)) ?_
            simp only [Act.put, List.setIfInBounds_toArray, List.set_cons_zero, List.set_cons_succ]
            refine wpList_run (v := .int .i64 o.dev) (wanted_none rfl) (exec_load1 rfl rfl (by kernel_rfl) (HB7.out.cell 1)) ?_
            simp only [Act.put, List.setIfInBounds_toArray, List.set_cons_zero, List.set_cons_succ]
            refine wpList_run (v := .pointer (some ⟨g7, 2, none⟩)) (wanted_none rfl) (exec_field (off := 0) (d := 2) rfl rfl (by kernel_rfl)) ?_
            simp only [Act.put, List.setIfInBounds_toArray, List.set_cons_zero, List.set_cons_succ]
            refine wpList_run (v := .int .i64 o.place) (wanted_none rfl) (exec_load1 rfl rfl (by kernel_rfl) (HB7.out.cell 2)) ?_
            simp only [Act.put, List.setIfInBounds_toArray, List.set_cons_zero, List.set_cons_succ]
            refine wpList_run (v := .slice (some ⟨g8, 0, none⟩) 64 64) (wanted_none rfl) (exec_move rfl rfl) ?_
            simp only [Act.put, List.setIfInBounds_toArray, List.set_cons_zero, List.set_cons_succ]
            refine wpList_op rfl fun K9 HK9 => ?_
            go_wp2_with fail
            refine (HWX.out).mono ?_
            rintro e w10 ⟨rfl, hg⟩
            refine HK9.out _ _ ?_
            clear HK9
            try simp only [Act.put, List.setIfInBounds_toArray, List.set_cons_zero, List.set_cons_succ]
            obtain ⟨F', hq, ht⟩ := HQ8.out.gx hg (Nat.le_succ i)
            have HQ10 := Lib.hid hq
            have HT10 := Lib.hid (kept_old HT8.out ht)
            have HB710 := Lib.hid (kept_7 HB78.out ht)
            have HB810 := Lib.hid (kept_8 HB88.out ht)
            have HGN := Lib.hid (show Gd s' a' (i + 1) from Gd.of hq.px HLK.out HLR.out)
            clear hg hq ht
            clear HWX
            refine wpList_run (v := .int .i64 ec) (wanted_none rfl) (gx_assign rfl rfl) ?_
            simp only [Act.put, List.setIfInBounds_toArray, List.set_cons_zero, List.set_cons_succ]
            obtain ⟨wd, hwd⟩ : ∃ v, v = w10.drew := ⟨_, rfl⟩
            have htd : Turn nowhere w10 wd := by rw [hwd]; exact (Turn.refl _ _).drew
            have HQD := Lib.hid (HQ10.out.still htd)
            have HTD := Lib.hid (HT10.out.trans htd fun _ _ e => e)
            have HB7D := Lib.hid (HB710.out.turn htd fun e => e)
            have HB8D := Lib.hid (HB810.out.turn htd fun e => e)
            have HSC := Lib.hid (sector_walk o.kind o.dev o.place o.n o.c o.A o.m o.cp wd)
            clear htd
            go_upto_region 22 with fail
            refine wp_region_alw (fun W => Blk W g7 35 o.arr) (by kernel_rfl) ?_
            rw [← hwd]
            have hS0 := HB7D.out
            clear hwd
            refine alw_take (i := 0) (v := .pointer (some ⟨y, 0, none⟩)) rfl (by kernel_rfl) (by kernel_rfl) (fun _ _ _ h => h) (.inl ⟨by rfl, fun W hW => exec_move rfl rfl⟩) hS0 ?_
            simp only [Act.put, List.setIfInBounds_toArray, List.set_cons_zero, List.set_cons_succ]
            refine alw_take (i := 1) (v := .pointer (some ⟨g7, 1, none⟩)) rfl (by kernel_rfl) (by kernel_rfl) (fun _ _ _ h => h) (.inl ⟨by rfl, fun W hW => exec_field (off := 0) (d := 1) rfl rfl (by kernel_rfl)⟩) hS0 ?_
            simp only [Act.put, List.setIfInBounds_toArray, List.set_cons_zero, List.set_cons_succ]
            refine alw_take (i := 2) (v := .int .i64 o.dev) rfl (by kernel_rfl) (by kernel_rfl) (fun _ _ _ h => h) (.inl ⟨by rfl, fun W hW => exec_load1 rfl rfl (by kernel_rfl) (hW.cell 1)⟩) hS0 ?_
            simp only [Act.put, List.setIfInBounds_toArray, List.set_cons_zero, List.set_cons_succ]
            refine alw_take (i := 3) (v := .pointer (some ⟨g7, 2, none⟩)) rfl (by kernel_rfl) (by kernel_rfl) (fun _ _ _ h => h) (.inl ⟨by rfl, fun W hW => exec_field (off := 0) (d := 2) rfl rfl (by kernel_rfl)⟩) hS0 ?_
            simp only [Act.put, List.setIfInBounds_toArray, List.set_cons_zero, List.set_cons_succ]
            refine alw_take (i := 4) (v := .int .i64 o.place) rfl (by kernel_rfl) (by kernel_rfl) (fun _ _ _ h => h) (.inl ⟨by rfl, fun W hW => exec_load1 rfl rfl (by kernel_rfl) (hW.cell 2)⟩) hS0 ?_
            simp only [Act.put, List.setIfInBounds_toArray, List.set_cons_zero, List.set_cons_succ]
            refine alw_take (i := 5) (v := .agg o.arr) rfl (by kernel_rfl) (by kernel_rfl) (fun _ _ _ h => h) (.inl ⟨by rfl, fun W hW => gx_loads rfl rfl (blk_range hW) Try.underlying35 rfl (by rw [size_op6]; rfl)⟩) hS0 ?_
            simp only [Act.put, List.setIfInBounds_toArray, List.set_cons_zero, List.set_cons_succ]
            refine alw_step (i := 6) (by kernel_rfl) rfl rfl ?_
            intro K1 HK1
            go_wp2_with fail
            refine (HSC.out).mono ?_
            rintro e w11 ⟨g9, rfl, hge, hb9, ht⟩

            refine HK1.out _ _ ⟨hS0.turn ht fun e => e, ?_⟩
            clear HK1
            try simp only [Act.put, List.setIfInBounds_toArray, List.set_cons_zero, List.set_cons_succ]
            have HQ11 := Lib.hid (HQD.out.still ht)
            have HT11 := Lib.hid (HTD.out.trans ht fun _ _ e => e)
            have HB711 := Lib.hid (HB7D.out.turn ht fun e => e)
            have HB811 := Lib.hid (HB8D.out.turn ht fun e => e)
            have HWY1 := Lib.hid (HWY.out w11 y G Z (some ⟨g9, 0, none⟩) 64 HQ11.out.py fun _ => ⟨bs_blk hb9 (secO o.c o.place o.n).2 (by unfold maxLen; omega), fun b' off s' e => by
              injection e with e
              injection e with e1 e2 e3
              subst e1
              have := HQD.out.py.lt HQD.out.py.self
              omega⟩)
            clear hge hb9 ht HSC HWY hS0
            refine alw_step (i := 7) (by kernel_rfl) rfl rfl ?_
            intro K1 HK1
            go_wp2_with fail
            refine (HWY1.out).mono ?_
            rintro e w12 ⟨rfl, hg⟩
            obtain ⟨G', Z', hq, ht⟩ := HQ11.out.ry hg
            have HKT := Lib.hid ht
            refine HK1.out _ _ ⟨kept_7 HB711.out HKT.out, ?_⟩
            clear HK1
            try simp only [Act.put, List.setIfInBounds_toArray, List.set_cons_zero, List.set_cons_succ]
            have HQ12 := Lib.hid hq
            have HT12 := Lib.hid (kept_old HT11.out ht)
            have HB712 := Lib.hid (kept_7 HB711.out ht)
            have HB812 := Lib.hid (kept_8 HB811.out ht)
            have hS0 := HB712.out
            clear hg hq ht HWY1
            refine alw_take (i := 8) (v := .int .i64 ec) rfl (by kernel_rfl) (by kernel_rfl) (fun _ _ _ h => h) (.inl ⟨by rfl, fun W hW => gx_assign rfl rfl⟩) hS0 ?_
            simp only [Act.put, List.setIfInBounds_toArray, List.set_cons_zero, List.set_cons_succ]
            refine alw_done rfl ?_
            refine NoPanic.normal ?_
            clear hS0
            try simp only [Act.put, List.setIfInBounds_toArray, List.set_cons_zero, List.set_cons_succ]
            go_upto_region 23 with fail
            refine wp_region_lit ?_
            refine wpList_run (v := .int .i64 ec) (wanted_none rfl) (exec_move rfl rfl) ?_
            simp only [Act.put, List.setIfInBounds_toArray, List.set_cons_zero, List.set_cons_succ]
            refine wpList_run (v := .int .i64 ec) (wanted_none rfl) (exec_move rfl rfl) ?_
            simp only [Act.put, List.setIfInBounds_toArray, List.set_cons_zero, List.set_cons_succ]
            refine wpList_run (v := .bool false) (wanted_none rfl) (ix_neq rfl rfl rfl (decide_eq_false (fun h => h rfl))) ?_
            simp only [Act.put, List.setIfInBounds_toArray, List.set_cons_zero, List.set_cons_succ]
            go_wp2_with fail
            go_meet
            exact ⟨x, y, z, u, F', G', Z', F2, G2, Z2, s', s2, a', a2, rfl, rfl, rfl, rfl, HQ12.out, HGN.out, HG2.out.mono (Nat.le_succ i), HB712.out, HB812.out, HT12.out⟩
        · go_upto_region 18 with fail
          refine wp_region_lit ?_
          refine wpList_run (v := .bool false) (wanted_none rfl) (ix_eql rfl rfl rfl (by decide)) ?_
          simp only [Act.put, List.setIfInBounds_toArray, List.set_cons_zero, List.set_cons_succ]
          refine wpList_run (v := .bool false) (wanted_none rfl) (gx_assign rfl rfl) ?_
          simp only [Act.put, List.setIfInBounds_toArray, List.set_cons_zero, List.set_cons_succ]
          go_upto_region 19 with fail
          refine wp_region_lit ?_
          refine wpList_run (v := .bool false) (wanted_none rfl) (ix_eql rfl rfl rfl (by decide)) ?_
          simp only [Act.put, List.setIfInBounds_toArray, List.set_cons_zero, List.set_cons_succ]
          refine wpList_run (v := .bool false) (wanted_none rfl) (gx_assign rfl rfl) ?_
          simp only [Act.put, List.setIfInBounds_toArray, List.set_cons_zero, List.set_cons_succ]
          go_upto_region 20 with fail
          refine wp_region_lit ?_
          refine wpList_run (v := .bool false) (wanted_none rfl) (ix_eql rfl rfl rfl (by decide)) ?_
          simp only [Act.put, List.setIfInBounds_toArray, List.set_cons_zero, List.set_cons_succ]
          refine wpList_run (v := .bool false) (wanted_none rfl) (gx_assign rfl rfl) ?_
          simp only [Act.put, List.setIfInBounds_toArray, List.set_cons_zero, List.set_cons_succ]
          go_upto_region 25 with fail
          refine wp_region_lit ?_
          refine wpList_run (v := .bool true) (wanted_none rfl) (ix_eql rfl rfl rfl (by decide)) ?_
          simp only [Act.put, List.setIfInBounds_toArray, List.set_cons_zero, List.set_cons_succ]
          refine wpList_run (v := .bool true) (wanted_none rfl) (gx_assign rfl rfl) ?_
          simp only [Act.put, List.setIfInBounds_toArray, List.set_cons_zero, List.set_cons_succ]
          clear hkm HKW
          as_aux_lemma =>
            have HB78 := Lib.hid HB7.out
            have HB88 := Lib.hid HB8.out
            obtain ⟨ec, s', a', hlk, hlr, hwx, hwy⟩ := fl_both HG.out (by omega) o.dev
            have HLK := Lib.hid hlk
            have HLR := Lib.hid hlr
            have HWY := Lib.hid hwy
            have HWX := Lib.hid (hwx w9 x F HQ8.out.px)
            clear hlk hlr hwx hwy
            go_upto_region 26 with fail
            refine wp_region_lit ?_
            refine wpList_run (v := .pointer (some ⟨x, 0, none⟩)) (wanted_none rfl) (exec_move rfl rfl) ?_
            simp only [Act.put, List.setIfInBounds_toArray, List.set_cons_zero, List.set_cons_succ]
            refine wpList_run (v := .pointer (some ⟨g7, 1, none⟩)) (wanted_none rfl) (exec_field (off := 0) (d := 1) rfl rfl (by kernel_rfl)) ?_
            simp only [Act.put, List.setIfInBounds_toArray, List.set_cons_zero, List.set_cons_succ]
            refine wpList_run (v := .int .i64 o.dev) (wanted_none rfl) (exec_load1 rfl rfl (by kernel_rfl) (HB7.out.cell 1)) ?_
            simp only [Act.put, List.setIfInBounds_toArray, List.set_cons_zero, List.set_cons_succ]
            refine wpList_op rfl fun K9 HK9 => ?_
            go_wp2_with fail
            refine (HWX.out).mono ?_
            rintro e w10 ⟨rfl, hg⟩
            refine HK9.out _ _ ?_
            clear HK9
            try simp only [Act.put, List.setIfInBounds_toArray, List.set_cons_zero, List.set_cons_succ]
            obtain ⟨F', hq, ht⟩ := HQ8.out.gx hg (Nat.le_succ i)
            have HQ10 := Lib.hid hq
            have HT10 := Lib.hid (kept_old HT8.out ht)
            have HB710 := Lib.hid (kept_7 HB78.out ht)
            have HB810 := Lib.hid (kept_8 HB88.out ht)
            have HGN := Lib.hid (show Gd s' a' (i + 1) from Gd.of hq.px HLK.out HLR.out)
            clear hg hq ht
            have HWY1 := Lib.hid (HWY.out w10 y G Z HQ10.out.py)
            clear HWX HWY
            refine wpList_run (v := .int .i64 ec) (wanted_none rfl) (gx_assign rfl rfl) ?_
            simp only [Act.put, List.setIfInBounds_toArray, List.set_cons_zero, List.set_cons_succ]
            go_upto_region 27 with fail
            refine wp_region_lit ?_
            refine wpList_run (v := .pointer (some ⟨y, 0, none⟩)) (wanted_none rfl) (exec_move rfl rfl) ?_
            simp only [Act.put, List.setIfInBounds_toArray, List.set_cons_zero, List.set_cons_succ]
            refine wpList_run (v := .pointer (some ⟨g7, 1, none⟩)) (wanted_none rfl) (exec_field (off := 0) (d := 1) rfl rfl (by kernel_rfl)) ?_
            simp only [Act.put, List.setIfInBounds_toArray, List.set_cons_zero, List.set_cons_succ]
            refine wpList_run (v := .int .i64 o.dev) (wanted_none rfl) (exec_load1 rfl rfl (by kernel_rfl) (HB710.out.cell 1)) ?_
            simp only [Act.put, List.setIfInBounds_toArray, List.set_cons_zero, List.set_cons_succ]
            refine wpList_op rfl fun K9 HK9 => ?_
            go_wp2_with fail
            refine (HWY1.out).mono ?_
            rintro e w11 ⟨rfl, hg⟩
            refine HK9.out _ _ ?_
            clear HK9
            try simp only [Act.put, List.setIfInBounds_toArray, List.set_cons_zero, List.set_cons_succ]
            obtain ⟨G', Z', hq, ht⟩ := HQ10.out.ry hg
            have HQ11 := Lib.hid hq
            have HT11 := Lib.hid (kept_old HT10.out ht)
            have HB711 := Lib.hid (kept_7 HB710.out ht)
            have HB811 := Lib.hid (kept_8 HB810.out ht)
            clear hg hq ht
            refine wpList_run (v := .int .i64 ec) (wanted_none rfl) (gx_assign rfl rfl) ?_
            simp only [Act.put, List.setIfInBounds_toArray, List.set_cons_zero, List.set_cons_succ]
            go_upto_region 28 with fail
            refine wp_region_lit ?_
            refine wpList_run (v := .int .i64 ec) (wanted_none rfl) (exec_move rfl rfl) ?_
            simp only [Act.put, List.setIfInBounds_toArray, List.set_cons_zero, List.set_cons_succ]
            refine wpList_run (v := .int .i64 ec) (wanted_none rfl) (exec_move rfl rfl) ?_
            simp only [Act.put, List.setIfInBounds_toArray, List.set_cons_zero, List.set_cons_succ]
            refine wpList_run (v := .bool false) (wanted_none rfl) (ix_neq rfl rfl rfl (decide_eq_false (fun h => h rfl))) ?_
            simp only [Act.put, List.setIfInBounds_toArray, List.set_cons_zero, List.set_cons_succ]
            go_wp2_with fail
            go_meet
            exact ⟨x, y, z, u, F', G', Z', F2, G2, Z2, s', s2, a', a2, rfl, rfl, rfl, rfl, HQ11.out, HGN.out, HG2.out.mono (Nat.le_succ i), HB711.out, HB811.out, HT11.out⟩
        · go_upto_region 18 with fail
          refine wp_region_lit ?_
          refine wpList_run (v := .bool false) (wanted_none rfl) (ix_eql rfl rfl rfl (by decide)) ?_
          simp only [Act.put, List.setIfInBounds_toArray, List.set_cons_zero, List.set_cons_succ]
          refine wpList_run (v := .bool false) (wanted_none rfl) (gx_assign rfl rfl) ?_
          simp only [Act.put, List.setIfInBounds_toArray, List.set_cons_zero, List.set_cons_succ]
          go_upto_region 19 with fail
          refine wp_region_lit ?_
          refine wpList_run (v := .bool false) (wanted_none rfl) (ix_eql rfl rfl rfl (by decide)) ?_
          simp only [Act.put, List.setIfInBounds_toArray, List.set_cons_zero, List.set_cons_succ]
          refine wpList_run (v := .bool false) (wanted_none rfl) (gx_assign rfl rfl) ?_
          simp only [Act.put, List.setIfInBounds_toArray, List.set_cons_zero, List.set_cons_succ]
          go_upto_region 20 with fail
          refine wp_region_lit ?_
          refine wpList_run (v := .bool false) (wanted_none rfl) (ix_eql rfl rfl rfl (by decide)) ?_
          simp only [Act.put, List.setIfInBounds_toArray, List.set_cons_zero, List.set_cons_succ]
          refine wpList_run (v := .bool false) (wanted_none rfl) (gx_assign rfl rfl) ?_
          simp only [Act.put, List.setIfInBounds_toArray, List.set_cons_zero, List.set_cons_succ]
          go_upto_region 25 with fail
          refine wp_region_lit ?_
          refine wpList_run (v := .bool false) (wanted_none rfl) (ix_eql rfl rfl rfl (by decide)) ?_
          simp only [Act.put, List.setIfInBounds_toArray, List.set_cons_zero, List.set_cons_succ]
          refine wpList_run (v := .bool false) (wanted_none rfl) (gx_assign rfl rfl) ?_
          simp only [Act.put, List.setIfInBounds_toArray, List.set_cons_zero, List.set_cons_succ]
          go_upto_region 30 with fail
          refine wp_region_lit ?_
          refine wpList_run (v := .bool true) (wanted_none rfl) (ix_eql rfl rfl rfl (by decide)) ?_
          simp only [Act.put, List.setIfInBounds_toArray, List.set_cons_zero, List.set_cons_succ]
          refine wpList_run (v := .bool true) (wanted_none rfl) (gx_assign rfl rfl) ?_
          simp only [Act.put, List.setIfInBounds_toArray, List.set_cons_zero, List.set_cons_succ]
          clear hkm HKW
          as_aux_lemma =>
            have HB78 := Lib.hid HB7.out
            have HB88 := Lib.hid HB8.out
            obtain ⟨ec, rl, hrc, _⟩ := rd_both HG.out (by omega) o.dev o.place
            have HRC := Lib.hid ((hrc w9 x F HQ8.out.px).mono fun e w' h => h.un)
            clear hrc
            go_upto_region 31 with fail
            refine wp_region_lit ?_
            refine wpList_run (v := .pointer (some ⟨x, 0, none⟩)) (wanted_none rfl) (exec_move rfl rfl) ?_
            simp only [Act.put, List.setIfInBounds_toArray, List.set_cons_zero, List.set_cons_succ]
            refine wpList_run (v := .pointer (some ⟨g7, 1, none⟩)) (wanted_none rfl) (exec_field (off := 0) (d := 1) rfl rfl (by kernel_rfl)) ?_
            simp only [Act.put, List.setIfInBounds_toArray, List.set_cons_zero, List.set_cons_succ]
            refine wpList_run (v := .int .i64 o.dev) (wanted_none rfl) (exec_load1 rfl rfl (by kernel_rfl) (HB7.out.cell 1)) ?_
            simp only [Act.put, List.setIfInBounds_toArray, List.set_cons_zero, List.set_cons_succ]
            refine wpList_run (v := .pointer (some ⟨g7, 2, none⟩)) (wanted_none rfl) (exec_field (off := 0) (d := 2) rfl rfl (by kernel_rfl)) ?_
            simp only [Act.put, List.setIfInBounds_toArray, List.set_cons_zero, List.set_cons_succ]
            refine wpList_run (v := .int .i64 o.place) (wanted_none rfl) (exec_load1 rfl rfl (by kernel_rfl) (HB7.out.cell 2)) ?_
            simp only [Act.put, List.setIfInBounds_toArray, List.set_cons_zero, List.set_cons_succ]
            refine wpList_op rfl fun K9 HK9 => ?_
            go_wp2_with fail
            refine (HRC.out).mono ?_
            rintro e w10 ⟨A7, n7, c7, rfl, hn7, ht, hA, hR⟩
            refine HK9.out _ _ ?_
            clear HK9
            try simp only [Act.put, List.setIfInBounds_toArray, List.set_cons_zero, List.set_cons_succ]
            have HQ10 := Lib.hid (HQ8.out.still ht)
            have HTA := Lib.hid ht
            have HAN := Lib.hid hA
            have HRB := Lib.hid hR
            have yn7 : (n7 : Int) ≤ 64 := by omega
            clear hn7 ht hA hR HRC
            refine wpList_run (v := .tuple #[.slice A7 n7 c7, .int .i64 ec]) (wanted_none rfl) (exec_move rfl rfl) ?_
            simp only [Act.put, List.setIfInBounds_toArray, List.set_cons_zero, List.set_cons_succ]
            refine wpList_run (v := .slice A7 n7 c7) (wanted_none rfl) (ix_extract rfl rfl rfl) ?_
            simp only [Act.put, List.setIfInBounds_toArray, List.set_cons_zero, List.set_cons_succ]
            refine wpList_run (v := .int .i64 ec) (wanted_none rfl) (ix_extract rfl rfl rfl) ?_
            simp only [Act.put, List.setIfInBounds_toArray, List.set_cons_zero, List.set_cons_succ]
            refine wpList_run (v := .slice A7 n7 c7) (wanted_none rfl) (gx_assign rfl rfl) ?_
            simp only [Act.put, List.setIfInBounds_toArray, List.set_cons_zero, List.set_cons_succ]
            refine wpList_run (v := .int .i64 ec) (wanted_none rfl) (gx_assign rfl rfl) ?_
            simp only [Act.put, List.setIfInBounds_toArray, List.set_cons_zero, List.set_cons_succ]
            go_upto_region 32 with fail
            refine wp_region_lit ?_
            refine wpList_run (v := .int .i64 0) (wanted_none rfl) (gx_assign rfl rfl) ?_
            simp only [Act.put, List.setIfInBounds_toArray, List.set_cons_zero, List.set_cons_succ]
            generalize gk = gk0 at *
            generalize hwr0 : wr = wr0 at *
            clear hwr0
            go_wp2_with fail
            go_loopg [21] n7 (fun gk jv wr => ∃ j : Nat, jv = .int .i64 (j : Int) ∧ j + gk = n7 ∧ Turn (fun b => A7 = some ⟨b, 0, none⟩) w10 wr ∧ (0 < n7 → ∃ ga cur, A7 = some ⟨ga, 0, none⟩ ∧ Blk wr ga 63 cur ∧ n7 ≤ cur.size))
            case atStart => exact ⟨0, rfl, by omega, Turn.refl _ _, HRB.out⟩
            obtain ⟨j, rfl, hgk2, htr2, ha7⟩ := hrel
            have HGK2 := Lib.hid hgk2
            have HTR2 := Lib.hid htr2
            have HA7r := Lib.hid ha7
            have yj : (j : Int) ≤ (n7 : Int) := by omega
            clear hgk2 htr2 ha7
            by_cases hjl : j < n7
            · have HJL := Lib.hid hjl
              have y6 : (j : Int) < (n7 : Int) := by omega
              obtain ⟨ga, cur, e7, hb, hs⟩ := HA7r.out (by omega)
              have HBC := Lib.hid hb
              have HSC := Lib.hid hs
              subst e7
              clear hjl hb hs
              go_upto_region 33 with fail
              refine wp_region_lit ?_
              refine wpList_run (v := .int .i64 (j : Int)) (wanted_none rfl) (exec_move rfl rfl) ?_
              simp only [Act.put, List.setIfInBounds_toArray, List.set_cons_zero, List.set_cons_succ]
              refine wpList_run (v := .slice (some ⟨ga, 0, none⟩) n7 c7) (wanted_none rfl) (exec_move rfl rfl) ?_
              simp only [Act.put, List.setIfInBounds_toArray, List.set_cons_zero, List.set_cons_succ]
              refine wpList_run (v := .int .i64 (n7 : Int)) (wanted_none rfl) (gx_len rfl rfl Try.underlying36) ?_
              simp only [Act.put, List.setIfInBounds_toArray, List.set_cons_zero, List.set_cons_succ]
              refine wpList_run (v := .bool true) (wanted_none rfl) (ix_lss rfl rfl rfl (decide_eq_true y6)) ?_
              simp only [Act.put, List.setIfInBounds_toArray, List.set_cons_zero, List.set_cons_succ]
              go_upto_region 35 with fail
              refine wp_region_lit ?_
              refine wpList_run (v := .slice (some ⟨ga, 0, none⟩) n7 c7) (wanted_none rfl) (exec_move rfl rfl) ?_
              simp only [Act.put, List.setIfInBounds_toArray, List.set_cons_zero, List.set_cons_succ]
              refine wpList_run (v := .int .i64 (j : Int)) (wanted_none rfl) (exec_move rfl rfl) ?_
              simp only [Act.put, List.setIfInBounds_toArray, List.set_cons_zero, List.set_cons_succ]
              refine wpList_run (v := .pointer (some ⟨ga, 0 + j * 1, none⟩)) (wanted_none rfl) (gx_iaddr (i := j) (sz := 1) rfl rfl rfl Try.underlying36 size_byteR HJL.out rfl) ?_
              simp only [Act.put, List.setIfInBounds_toArray, List.set_cons_zero, List.set_cons_succ]
              refine wpList_storeU (0 + j * 1) (.int .u8 99) (wanted_none rfl) 5 _ _ rfl HBC.out rfl rfl (by have := HSC.out; have := HJL.out; omega) ⟨rfl, rfl⟩ (by kernel_rfl) ?_
              intro w14 hb14 ht14
              simp only [Act.put, List.setIfInBounds_toArray, List.set_cons_zero, List.set_cons_succ]
              have HX14 := Lib.hid (HTR2.out.trans (ht14.mono fun k _ e => (show (some ⟨ga, 0, none⟩ : Option Addr) = some ⟨k, 0, none⟩ by rw [show k = ga from e])) fun _ _ e => e)
              have HB14 := Lib.hid hb14
              clear hb14 ht14
              go_upto_region 34 with fail
              refine wp_region_lit ?_
              refine wpList_run (v := .int .i64 (j : Int)) (wanted_none rfl) (exec_move rfl rfl) ?_
              simp only [Act.put, List.setIfInBounds_toArray, List.set_cons_zero, List.set_cons_succ]
              refine wpList_run (v := .int .i64 ((j + 1 : Nat) : Int)) (wanted_none rfl) (ix_add rfl rfl rfl (by omega) (by omega)) ?_
              simp only [Act.put, List.setIfInBounds_toArray, List.set_cons_zero, List.set_cons_succ]
              refine wpList_run (v := .int .i64 ((j + 1 : Nat) : Int)) (wanted_none rfl) (gx_assign rfl rfl) ?_
              simp only [Act.put, List.setIfInBounds_toArray, List.set_cons_zero, List.set_cons_succ]
              go_wp2_with fail
              go_roundg (n7 - (j + 1))
              case measure => have := HGK2.out; have := HJL.out; omega
              case rel => exact ⟨j + 1, rfl, by have := HJL.out; omega, HX14.out, fun _ => ⟨ga, _, rfl, HB14.out, by have := HSC.out; simpa using this⟩⟩
            · go_upto_region 33 with fail
              refine wp_region_lit ?_
              refine wpList_run (v := .int .i64 (j : Int)) (wanted_none rfl) (exec_move rfl rfl) ?_
              simp only [Act.put, List.setIfInBounds_toArray, List.set_cons_zero, List.set_cons_succ]
              refine wpList_run (v := .slice A7 n7 c7) (wanted_none rfl) (exec_move rfl rfl) ?_
              simp only [Act.put, List.setIfInBounds_toArray, List.set_cons_zero, List.set_cons_succ]
              refine wpList_run (v := .int .i64 (n7 : Int)) (wanted_none rfl) (gx_len rfl rfl Try.underlying36) ?_
              simp only [Act.put, List.setIfInBounds_toArray, List.set_cons_zero, List.set_cons_succ]
              refine wpList_run (v := .bool false) (wanted_none rfl) (ix_lss rfl rfl rfl (decide_eq_false (by omega))) ?_
              simp only [Act.put, List.setIfInBounds_toArray, List.set_cons_zero, List.set_cons_succ]
              clear hjl
              have hall := (HTA.out.mono fun _ _ e => e.elim).trans HTR2.out (G := fun b => A7 = some ⟨b, 0, none⟩) fun b _ e => e
              have HQ11 := Lib.hid ((HQ8.out.off hall fun b e => HQ8.out.top (HAN.out b e)).mono (Nat.le_succ i))
              have HT11 := Lib.hid (HT8.out.trans hall fun b hb e => by have h1 := HAN.out b e; have h2 := HT8.out.size; omega)
              have HB711 := Lib.hid (HB7.out.turn hall fun e => by have h1 := HAN.out _ e; have h2 := HB7.out.lt; omega)
              have HB811 := Lib.hid (HB8.out.turn hall fun e => by have h1 := HAN.out _ e; have h2 := HB8.out.lt; omega)
              clear hall
              go_wp2_with fail
              go_meet
              exact ⟨x, y, z, u, F, G, Z, F2, G2, Z2, s, s2, a, a2, rfl, rfl, rfl, rfl, HQ11.out, HG.out.mono (Nat.le_succ i), HG2.out.mono (Nat.le_succ i), HB711.out, HB811.out, HT11.out⟩
        · go_upto_region 18 with fail
          refine wp_region_lit ?_
          refine wpList_run (v := .bool false) (wanted_none rfl) (ix_eql rfl rfl rfl (by decide)) ?_
          simp only [Act.put, List.setIfInBounds_toArray, List.set_cons_zero, List.set_cons_succ]
          refine wpList_run (v := .bool false) (wanted_none rfl) (gx_assign rfl rfl) ?_
          simp only [Act.put, List.setIfInBounds_toArray, List.set_cons_zero, List.set_cons_succ]
          go_upto_region 19 with fail
          refine wp_region_lit ?_
          refine wpList_run (v := .bool false) (wanted_none rfl) (ix_eql rfl rfl rfl (by decide)) ?_
          simp only [Act.put, List.setIfInBounds_toArray, List.set_cons_zero, List.set_cons_succ]
          refine wpList_run (v := .bool false) (wanted_none rfl) (gx_assign rfl rfl) ?_
          simp only [Act.put, List.setIfInBounds_toArray, List.set_cons_zero, List.set_cons_succ]
          go_upto_region 20 with fail
          refine wp_region_lit ?_
          refine wpList_run (v := .bool false) (wanted_none rfl) (ix_eql rfl rfl rfl (by decide)) ?_
          simp only [Act.put, List.setIfInBounds_toArray, List.set_cons_zero, List.set_cons_succ]
          refine wpList_run (v := .bool false) (wanted_none rfl) (gx_assign rfl rfl) ?_
          simp only [Act.put, List.setIfInBounds_toArray, List.set_cons_zero, List.set_cons_succ]
          go_upto_region 25 with fail
          refine wp_region_lit ?_
          refine wpList_run (v := .bool false) (wanted_none rfl) (ix_eql rfl rfl rfl (by decide)) ?_
          simp only [Act.put, List.setIfInBounds_toArray, List.set_cons_zero, List.set_cons_succ]
          refine wpList_run (v := .bool false) (wanted_none rfl) (gx_assign rfl rfl) ?_
          simp only [Act.put, List.setIfInBounds_toArray, List.set_cons_zero, List.set_cons_succ]
          go_upto_region 30 with fail
          refine wp_region_lit ?_
          refine wpList_run (v := .bool false) (wanted_none rfl) (ix_eql rfl rfl rfl (by decide)) ?_
          simp only [Act.put, List.setIfInBounds_toArray, List.set_cons_zero, List.set_cons_succ]
          refine wpList_run (v := .bool false) (wanted_none rfl) (gx_assign rfl rfl) ?_
          simp only [Act.put, List.setIfInBounds_toArray, List.set_cons_zero, List.set_cons_succ]
          go_upto_region 36 with fail
          refine wp_region_lit ?_
          refine wpList_run (v := .bool true) (wanted_none rfl) (ix_eql rfl rfl rfl (by decide)) ?_
          simp only [Act.put, List.setIfInBounds_toArray, List.set_cons_zero, List.set_cons_succ]
          refine wpList_run (v := .bool true) (wanted_none rfl) (gx_assign rfl rfl) ?_
          simp only [Act.put, List.setIfInBounds_toArray, List.set_cons_zero, List.set_cons_succ]
          clear hkm HKW
          as_aux_lemma =>
            have HB78 := Lib.hid HB7.out
            have HB88 := Lib.hid HB8.out
            obtain ⟨s', a', hlk, hlr, hwx, hwy⟩ := fuse_both HG.out o.n HOK.out.n
            have HLK := Lib.hid hlk
            have HLR := Lib.hid hlr
            have HWY := Lib.hid hwy
            have HWX := Lib.hid (hwx w9 x F HQ8.out.px)
            clear hlk hlr hwx hwy
            go_upto_region 37 with fail
            refine wp_region_lit ?_
            refine wpList_run (v := .pointer (some ⟨x, 0, none⟩)) (wanted_none rfl) (exec_move rfl rfl) ?_
            simp only [Act.put, List.setIfInBounds_toArray, List.set_cons_zero, List.set_cons_succ]
            refine wpList_run (v := .pointer (some ⟨g7, 3, none⟩)) (wanted_none rfl) (exec_field (off := 0) (d := 3) rfl rfl (by kernel_rfl)) ?_
            simp only [Act.put, List.setIfInBounds_toArray, List.set_cons_zero, List.set_cons_succ]
            refine wpList_run (v := .int .i64 o.n) (wanted_none rfl) (exec_load1 rfl rfl (by kernel_rfl) (HB7.out.cell 3)) ?_
            simp only [Act.put, List.setIfInBounds_toArray, List.set_cons_zero, List.set_cons_succ]
            refine wpList_op rfl fun K9 HK9 => ?_
            go_wp2_with fail
            refine (HWX.out).mono ?_
            rintro e w10 ⟨rfl, hg⟩
            refine HK9.out _ _ ?_
            clear HK9
            try simp only [Act.put, List.setIfInBounds_toArray, List.set_cons_zero, List.set_cons_succ]
            obtain ⟨F', hq, ht⟩ := HQ8.out.gx hg (Nat.le_succ i)
            have HQ10 := Lib.hid hq
            have HT10 := Lib.hid (kept_old HT8.out ht)
            have HB710 := Lib.hid (kept_7 HB78.out ht)
            have HB810 := Lib.hid (kept_8 HB88.out ht)
            have HGN := Lib.hid (show Gd s' a' (i + 1) from Gd.of hq.px HLK.out HLR.out)
            clear hg hq ht
            have HWY1 := Lib.hid (HWY.out w10 y G Z HQ10.out.py)
            clear HWX HWY
            go_upto_region 38 with fail
            refine wp_region_lit ?_
            refine wpList_run (v := .pointer (some ⟨y, 0, none⟩)) (wanted_none rfl) (exec_move rfl rfl) ?_
            simp only [Act.put, List.setIfInBounds_toArray, List.set_cons_zero, List.set_cons_succ]
            refine wpList_run (v := .pointer (some ⟨g7, 3, none⟩)) (wanted_none rfl) (exec_field (off := 0) (d := 3) rfl rfl (by kernel_rfl)) ?_
            simp only [Act.put, List.setIfInBounds_toArray, List.set_cons_zero, List.set_cons_succ]
            refine wpList_run (v := .int .i64 o.n) (wanted_none rfl) (exec_load1 rfl rfl (by kernel_rfl) (HB710.out.cell 3)) ?_
            simp only [Act.put, List.setIfInBounds_toArray, List.set_cons_zero, List.set_cons_succ]
            refine wpList_op rfl fun K9 HK9 => ?_
            go_wp2_with fail
            refine (HWY1.out).mono ?_
            rintro e w11 ⟨rfl, hg⟩
            refine HK9.out _ _ ?_
            clear HK9
            try simp only [Act.put, List.setIfInBounds_toArray, List.set_cons_zero, List.set_cons_succ]
            obtain ⟨G', Z', hq, ht⟩ := HQ10.out.ry hg
            have HQ11 := Lib.hid hq
            have HT11 := Lib.hid (kept_old HT10.out ht)
            have HB711 := Lib.hid (kept_7 HB710.out ht)
            have HB811 := Lib.hid (kept_8 HB810.out ht)
            clear hg hq ht
            go_wp2_with fail
            go_meet
            exact ⟨x, y, z, u, F', G', Z', F2, G2, Z2, s', s2, a', a2, rfl, rfl, rfl, rfl, HQ11.out, HGN.out, HG2.out.mono (Nat.le_succ i), HB711.out, HB811.out, HT11.out⟩
        · go_upto_region 18 with fail
          refine wp_region_lit ?_
          refine wpList_run (v := .bool false) (wanted_none rfl) (ix_eql rfl rfl rfl (by decide)) ?_
          simp only [Act.put, List.setIfInBounds_toArray, List.set_cons_zero, List.set_cons_succ]
          refine wpList_run (v := .bool false) (wanted_none rfl) (gx_assign rfl rfl) ?_
          simp only [Act.put, List.setIfInBounds_toArray, List.set_cons_zero, List.set_cons_succ]
          go_upto_region 19 with fail
          refine wp_region_lit ?_
          refine wpList_run (v := .bool false) (wanted_none rfl) (ix_eql rfl rfl rfl (by decide)) ?_
          simp only [Act.put, List.setIfInBounds_toArray, List.set_cons_zero, List.set_cons_succ]
          refine wpList_run (v := .bool false) (wanted_none rfl) (gx_assign rfl rfl) ?_
          simp only [Act.put, List.setIfInBounds_toArray, List.set_cons_zero, List.set_cons_succ]
          go_upto_region 20 with fail
          refine wp_region_lit ?_
          refine wpList_run (v := .bool false) (wanted_none rfl) (ix_eql rfl rfl rfl (by decide)) ?_
          simp only [Act.put, List.setIfInBounds_toArray, List.set_cons_zero, List.set_cons_succ]
          refine wpList_run (v := .bool false) (wanted_none rfl) (gx_assign rfl rfl) ?_
          simp only [Act.put, List.setIfInBounds_toArray, List.set_cons_zero, List.set_cons_succ]
          go_upto_region 25 with fail
          refine wp_region_lit ?_
          refine wpList_run (v := .bool false) (wanted_none rfl) (ix_eql rfl rfl rfl (by decide)) ?_
          simp only [Act.put, List.setIfInBounds_toArray, List.set_cons_zero, List.set_cons_succ]
          refine wpList_run (v := .bool false) (wanted_none rfl) (gx_assign rfl rfl) ?_
          simp only [Act.put, List.setIfInBounds_toArray, List.set_cons_zero, List.set_cons_succ]
          go_upto_region 30 with fail
          refine wp_region_lit ?_
          refine wpList_run (v := .bool false) (wanted_none rfl) (ix_eql rfl rfl rfl (by decide)) ?_
          simp only [Act.put, List.setIfInBounds_toArray, List.set_cons_zero, List.set_cons_succ]
          refine wpList_run (v := .bool false) (wanted_none rfl) (gx_assign rfl rfl) ?_
          simp only [Act.put, List.setIfInBounds_toArray, List.set_cons_zero, List.set_cons_succ]
          go_upto_region 36 with fail
          refine wp_region_lit ?_
          refine wpList_run (v := .bool false) (wanted_none rfl) (ix_eql rfl rfl rfl (by decide)) ?_
          simp only [Act.put, List.setIfInBounds_toArray, List.set_cons_zero, List.set_cons_succ]
          refine wpList_run (v := .bool false) (wanted_none rfl) (gx_assign rfl rfl) ?_
          simp only [Act.put, List.setIfInBounds_toArray, List.set_cons_zero, List.set_cons_succ]
          go_upto_region 39 with fail
          refine wp_region_lit ?_
          refine wpList_run (v := .bool true) (wanted_none rfl) (ix_eql rfl rfl rfl (by decide)) ?_
          simp only [Act.put, List.setIfInBounds_toArray, List.set_cons_zero, List.set_cons_succ]
          refine wpList_run (v := .bool true) (wanted_none rfl) (gx_assign rfl rfl) ?_
          simp only [Act.put, List.setIfInBounds_toArray, List.set_cons_zero, List.set_cons_succ]
          clear hkm HKW
          as_aux_lemma =>
            have HB78 := Lib.hid HB7.out
            have HB88 := Lib.hid HB8.out
            obtain ⟨s', a', hlk, hlr, hwx, hwy⟩ := boot_both HG.out (by omega) o.zs
            have HLK := Lib.hid hlk
            have HLR := Lib.hid hlr
            have HWY := Lib.hid hwy
            have HWX := Lib.hid (hwx w9 x F o.A o.m o.cp HQ8.out.px (HOK.out.ks.to HT8.out fun b hb e => HQ8.out.ap b (show (b < w.heap.size ∨ b = g7) ∨ b = g8 from .inl (.inl hb)) (.inl e)))
            clear hlk hlr hwx hwy
            go_upto_region 40 with fail
            refine wp_region_lit ?_
            refine wpList_run (v := .pointer (some ⟨x, 0, none⟩)) (wanted_none rfl) (exec_move rfl rfl) ?_
            simp only [Act.put, List.setIfInBounds_toArray, List.set_cons_zero, List.set_cons_succ]
            refine wpList_run (v := .pointer (some ⟨g7, 5, none⟩)) (wanted_none rfl) (exec_field (off := 0) (d := 5) rfl rfl (by kernel_rfl)) ?_
            simp only [Act.put, List.setIfInBounds_toArray, List.set_cons_zero, List.set_cons_succ]
            refine wpList_run (v := .slice o.A o.m o.cp) (wanted_none rfl) (exec_load1 rfl rfl (by kernel_rfl) (HB7.out.cell 5)) ?_
            simp only [Act.put, List.setIfInBounds_toArray, List.set_cons_zero, List.set_cons_succ]
            refine wpList_op rfl fun K9 HK9 => ?_
            go_wp2_with fail
            refine (HWX.out).mono ?_
            rintro e w10 ⟨rfl, hg⟩
            refine HK9.out _ _ ?_
            clear HK9
            try simp only [Act.put, List.setIfInBounds_toArray, List.set_cons_zero, List.set_cons_succ]
            obtain ⟨F', hq, ht⟩ := HQ8.out.gx hg (Nat.le_succ i)
            have HQ10 := Lib.hid hq
            have HT10 := Lib.hid (kept_old HT8.out ht)
            have HB710 := Lib.hid (kept_7 HB78.out ht)
            have HB810 := Lib.hid (kept_8 HB88.out ht)
            have HGN := Lib.hid (show Gd s' a' (i + 1) from Gd.of hq.px HLK.out HLR.out)
            clear hg hq ht
            have HWY1 := Lib.hid (HWY.out w10 y G Z o.A o.m o.cp HQ10.out.py (HOK.out.ks.to HT10.out fun b hb e => HQ10.out.ap b (show (b < w.heap.size ∨ b = g7) ∨ b = g8 from .inl (.inl hb)) (.inr (.inr (.inl e)))))
            clear HWX HWY
            go_upto_region 41 with fail
            refine wp_region_lit ?_
            refine wpList_run (v := .pointer (some ⟨y, 0, none⟩)) (wanted_none rfl) (exec_move rfl rfl) ?_
            simp only [Act.put, List.setIfInBounds_toArray, List.set_cons_zero, List.set_cons_succ]
            refine wpList_run (v := .pointer (some ⟨g7, 5, none⟩)) (wanted_none rfl) (exec_field (off := 0) (d := 5) rfl rfl (by kernel_rfl)) ?_
            simp only [Act.put, List.setIfInBounds_toArray, List.set_cons_zero, List.set_cons_succ]
            refine wpList_run (v := .slice o.A o.m o.cp) (wanted_none rfl) (exec_load1 rfl rfl (by kernel_rfl) (HB710.out.cell 5)) ?_
            simp only [Act.put, List.setIfInBounds_toArray, List.set_cons_zero, List.set_cons_succ]
            refine wpList_op rfl fun K9 HK9 => ?_
            go_wp2_with fail
            refine (HWY1.out).mono ?_
            rintro e w11 ⟨rfl, hg⟩
            refine HK9.out _ _ ?_
            clear HK9
            try simp only [Act.put, List.setIfInBounds_toArray, List.set_cons_zero, List.set_cons_succ]
            obtain ⟨G', Z', hq, ht⟩ := HQ10.out.ry hg
            have HQ11 := Lib.hid hq
            have HT11 := Lib.hid (kept_old HT10.out ht)
            have HB711 := Lib.hid (kept_7 HB710.out ht)
            have HB811 := Lib.hid (kept_8 HB810.out ht)
            clear hg hq ht
            go_wp2_with fail
            go_meet
            exact ⟨x, y, z, u, F', G', Z', F2, G2, Z2, s', s2, a', a2, rfl, rfl, rfl, rfl, HQ11.out, HGN.out, HG2.out.mono (Nat.le_succ i), HB711.out, HB811.out, HT11.out⟩
        · go_upto_region 18 with fail
          refine wp_region_lit ?_
          refine wpList_run (v := .bool false) (wanted_none rfl) (ix_eql rfl rfl rfl (by decide)) ?_
          simp only [Act.put, List.setIfInBounds_toArray, List.set_cons_zero, List.set_cons_succ]
          refine wpList_run (v := .bool false) (wanted_none rfl) (gx_assign rfl rfl) ?_
          simp only [Act.put, List.setIfInBounds_toArray, List.set_cons_zero, List.set_cons_succ]
          go_upto_region 19 with fail
          refine wp_region_lit ?_
          refine wpList_run (v := .bool false) (wanted_none rfl) (ix_eql rfl rfl rfl (by decide)) ?_
          simp only [Act.put, List.setIfInBounds_toArray, List.set_cons_zero, List.set_cons_succ]
          refine wpList_run (v := .bool false) (wanted_none rfl) (gx_assign rfl rfl) ?_
          simp only [Act.put, List.setIfInBounds_toArray, List.set_cons_zero, List.set_cons_succ]
          go_upto_region 20 with fail
          refine wp_region_lit ?_
          refine wpList_run (v := .bool false) (wanted_none rfl) (ix_eql rfl rfl rfl (by decide)) ?_
          simp only [Act.put, List.setIfInBounds_toArray, List.set_cons_zero, List.set_cons_succ]
          refine wpList_run (v := .bool false) (wanted_none rfl) (gx_assign rfl rfl) ?_
          simp only [Act.put, List.setIfInBounds_toArray, List.set_cons_zero, List.set_cons_succ]
          go_upto_region 25 with fail
          refine wp_region_lit ?_
          refine wpList_run (v := .bool false) (wanted_none rfl) (ix_eql rfl rfl rfl (by decide)) ?_
          simp only [Act.put, List.setIfInBounds_toArray, List.set_cons_zero, List.set_cons_succ]
          refine wpList_run (v := .bool false) (wanted_none rfl) (gx_assign rfl rfl) ?_
          simp only [Act.put, List.setIfInBounds_toArray, List.set_cons_zero, List.set_cons_succ]
          go_upto_region 30 with fail
          refine wp_region_lit ?_
          refine wpList_run (v := .bool false) (wanted_none rfl) (ix_eql rfl rfl rfl (by decide)) ?_
          simp only [Act.put, List.setIfInBounds_toArray, List.set_cons_zero, List.set_cons_succ]
          refine wpList_run (v := .bool false) (wanted_none rfl) (gx_assign rfl rfl) ?_
          simp only [Act.put, List.setIfInBounds_toArray, List.set_cons_zero, List.set_cons_succ]
          go_upto_region 36 with fail
          refine wp_region_lit ?_
          refine wpList_run (v := .bool false) (wanted_none rfl) (ix_eql rfl rfl rfl (by decide)) ?_
          simp only [Act.put, List.setIfInBounds_toArray, List.set_cons_zero, List.set_cons_succ]
          refine wpList_run (v := .bool false) (wanted_none rfl) (gx_assign rfl rfl) ?_
          simp only [Act.put, List.setIfInBounds_toArray, List.set_cons_zero, List.set_cons_succ]
          go_upto_region 39 with fail
          refine wp_region_lit ?_
          refine wpList_run (v := .bool false) (wanted_none rfl) (ix_eql rfl rfl rfl (by decide)) ?_
          simp only [Act.put, List.setIfInBounds_toArray, List.set_cons_zero, List.set_cons_succ]
          refine wpList_run (v := .bool false) (wanted_none rfl) (gx_assign rfl rfl) ?_
          simp only [Act.put, List.setIfInBounds_toArray, List.set_cons_zero, List.set_cons_succ]
          go_upto_region 42 with fail
          refine wp_region_lit ?_
          refine wpList_run (v := .bool true) (wanted_none rfl) (ix_eql rfl rfl rfl (by decide)) ?_
          simp only [Act.put, List.setIfInBounds_toArray, List.set_cons_zero, List.set_cons_succ]
          refine wpList_run (v := .bool true) (wanted_none rfl) (gx_assign rfl rfl) ?_
          simp only [Act.put, List.setIfInBounds_toArray, List.set_cons_zero, List.set_cons_succ]
          clear hkm HKW
          as_aux_lemma =>
            have HB78 := Lib.hid HB7.out
            have HB88 := Lib.hid HB8.out
            have HCX := Lib.hid (clone_walk HQ8.out.px (by omega))
            go_upto_region 43 with fail
            refine wp_region_lit ?_
            refine wpList_run (v := .pointer (some ⟨x, 0, none⟩)) (wanted_none rfl) (exec_move rfl rfl) ?_
            simp only [Act.put, List.setIfInBounds_toArray, List.set_cons_zero, List.set_cons_succ]
            refine wpList_run (v := .pointer (some ⟨x, 0, none⟩)) (wanted_none rfl) (gx_assign rfl rfl) ?_
            simp only [Act.put, List.setIfInBounds_toArray, List.set_cons_zero, List.set_cons_succ]
            go_upto_region 44 with fail
            refine wp_region_lit ?_
            refine wpList_run (v := .pointer (some ⟨x, 0, none⟩)) (wanted_none rfl) (exec_move rfl rfl) ?_
            simp only [Act.put, List.setIfInBounds_toArray, List.set_cons_zero, List.set_cons_succ]
            refine wpList_op rfl fun K9 HK9 => ?_
            go_wp2_with fail
            refine (HCX.out).mono ?_
            rintro e w10 ⟨x2, F', rfl, hp, ht, hF⟩
            refine HK9.out _ _ ?_
            clear HK9
            try simp only [Act.put, List.setIfInBounds_toArray, List.set_cons_zero, List.set_cons_succ]
            have HP1 := Lib.hid hp
            have HF1 := Lib.hid hF
            have HT1 := Lib.hid ht
            have HCY := Lib.hid (RAt.clone (HQ8.out.py.still ht) (by have := HG.out.r; omega))
            clear hp hF ht HCX
            refine wpList_run (v := .pointer (some ⟨x2, 0, none⟩)) (wanted_none rfl) (gx_assign rfl rfl) ?_
            simp only [Act.put, List.setIfInBounds_toArray, List.set_cons_zero, List.set_cons_succ]
            go_upto_region 45 with fail
            refine wp_region_lit ?_
            refine wpList_run (v := .pointer (some ⟨y, 0, none⟩)) (wanted_none rfl) (exec_move rfl rfl) ?_
            simp only [Act.put, List.setIfInBounds_toArray, List.set_cons_zero, List.set_cons_succ]
            refine wpList_run (v := .pointer (some ⟨y, 0, none⟩)) (wanted_none rfl) (gx_assign rfl rfl) ?_
            simp only [Act.put, List.setIfInBounds_toArray, List.set_cons_zero, List.set_cons_succ]
            go_upto_region 46 with fail
            refine wp_region_lit ?_
            refine wpList_run (v := .pointer (some ⟨y, 0, none⟩)) (wanted_none rfl) (exec_move rfl rfl) ?_
            simp only [Act.put, List.setIfInBounds_toArray, List.set_cons_zero, List.set_cons_succ]
            refine wpList_op rfl fun K9 HK9 => ?_
            go_wp2_with fail
            refine (HCY.out).mono ?_
            rintro e w11 ⟨y2, G', Z', rfl, hp, hG, hZ, ht⟩
            refine HK9.out _ _ ?_
            clear HK9
            try simp only [Act.put, List.setIfInBounds_toArray, List.set_cons_zero, List.set_cons_succ]
            have HQ11 := Lib.hid ((HQ8.out.clone HP1.out HT1.out HF1.out hp ht hG hZ).mono (Nat.le_succ i))
            have htt := HT1.out.trans ht fun _ _ e => e
            have HT11 := Lib.hid (HT8.out.trans htt fun _ _ e => e)
            have HB711 := Lib.hid (HB7.out.turn htt fun e => e)
            have HB811 := Lib.hid (HB8.out.turn htt fun e => e)
            clear hp hG hZ ht htt HCY
            refine wpList_run (v := .pointer (some ⟨y2, 0, none⟩)) (wanted_none rfl) (gx_assign rfl rfl) ?_
            simp only [Act.put, List.setIfInBounds_toArray, List.set_cons_zero, List.set_cons_succ]
            go_upto_region 47 with fail
            refine wp_region_lit ?_
            refine wpList_run (v := .pointer (some ⟨x2, 0, none⟩)) (wanted_none rfl) (exec_move rfl rfl) ?_
            simp only [Act.put, List.setIfInBounds_toArray, List.set_cons_zero, List.set_cons_succ]
            refine wpList_run (v := .bool false) (wanted_none rfl) (ptr_nnP rfl rfl rfl rfl) ?_
            simp only [Act.put, List.setIfInBounds_toArray, List.set_cons_zero, List.set_cons_succ]
            go_wp2_with fail
            go_meet
            exact ⟨x2, y2, x, y, F', G', Z', F, G, Z, s, s, a, a, rfl, rfl, rfl, rfl, HQ11.out, HG.out.mono (Nat.le_succ i), HG.out.mono (Nat.le_succ i), HB711.out, HB811.out, HT11.out⟩
        · go_upto_region 18 with fail
          refine wp_region_lit ?_
          refine wpList_run (v := .bool false) (wanted_none rfl) (ix_eql rfl rfl rfl (by decide)) ?_
          simp only [Act.put, List.setIfInBounds_toArray, List.set_cons_zero, List.set_cons_succ]
          refine wpList_run (v := .bool false) (wanted_none rfl) (gx_assign rfl rfl) ?_
          simp only [Act.put, List.setIfInBounds_toArray, List.set_cons_zero, List.set_cons_succ]
          go_upto_region 19 with fail
          refine wp_region_lit ?_
          refine wpList_run (v := .bool false) (wanted_none rfl) (ix_eql rfl rfl rfl (by decide)) ?_
          simp only [Act.put, List.setIfInBounds_toArray, List.set_cons_zero, List.set_cons_succ]
          refine wpList_run (v := .bool false) (wanted_none rfl) (gx_assign rfl rfl) ?_
          simp only [Act.put, List.setIfInBounds_toArray, List.set_cons_zero, List.set_cons_succ]
          go_upto_region 20 with fail
          refine wp_region_lit ?_
          refine wpList_run (v := .bool false) (wanted_none rfl) (ix_eql rfl rfl rfl (by decide)) ?_
          simp only [Act.put, List.setIfInBounds_toArray, List.set_cons_zero, List.set_cons_succ]
          refine wpList_run (v := .bool false) (wanted_none rfl) (gx_assign rfl rfl) ?_
          simp only [Act.put, List.setIfInBounds_toArray, List.set_cons_zero, List.set_cons_succ]
          go_upto_region 25 with fail
          refine wp_region_lit ?_
          refine wpList_run (v := .bool false) (wanted_none rfl) (ix_eql rfl rfl rfl (by decide)) ?_
          simp only [Act.put, List.setIfInBounds_toArray, List.set_cons_zero, List.set_cons_succ]
          refine wpList_run (v := .bool false) (wanted_none rfl) (gx_assign rfl rfl) ?_
          simp only [Act.put, List.setIfInBounds_toArray, List.set_cons_zero, List.set_cons_succ]
          go_upto_region 30 with fail
          refine wp_region_lit ?_
          refine wpList_run (v := .bool false) (wanted_none rfl) (ix_eql rfl rfl rfl (by decide)) ?_
          simp only [Act.put, List.setIfInBounds_toArray, List.set_cons_zero, List.set_cons_succ]
          refine wpList_run (v := .bool false) (wanted_none rfl) (gx_assign rfl rfl) ?_
          simp only [Act.put, List.setIfInBounds_toArray, List.set_cons_zero, List.set_cons_succ]
          go_upto_region 36 with fail
          refine wp_region_lit ?_
          refine wpList_run (v := .bool false) (wanted_none rfl) (ix_eql rfl rfl rfl (by decide)) ?_
          simp only [Act.put, List.setIfInBounds_toArray, List.set_cons_zero, List.set_cons_succ]
          refine wpList_run (v := .bool false) (wanted_none rfl) (gx_assign rfl rfl) ?_
          simp only [Act.put, List.setIfInBounds_toArray, List.set_cons_zero, List.set_cons_succ]
          go_upto_region 39 with fail
          refine wp_region_lit ?_
          refine wpList_run (v := .bool false) (wanted_none rfl) (ix_eql rfl rfl rfl (by decide)) ?_
          simp only [Act.put, List.setIfInBounds_toArray, List.set_cons_zero, List.set_cons_succ]
          refine wpList_run (v := .bool false) (wanted_none rfl) (gx_assign rfl rfl) ?_
          simp only [Act.put, List.setIfInBounds_toArray, List.set_cons_zero, List.set_cons_succ]
          go_upto_region 42 with fail
          refine wp_region_lit ?_
          refine wpList_run (v := .bool false) (wanted_none rfl) (ix_eql rfl rfl rfl (by decide)) ?_
          simp only [Act.put, List.setIfInBounds_toArray, List.set_cons_zero, List.set_cons_succ]
          refine wpList_run (v := .bool false) (wanted_none rfl) (gx_assign rfl rfl) ?_
          simp only [Act.put, List.setIfInBounds_toArray, List.set_cons_zero, List.set_cons_succ]
          go_upto_region 49 with fail
          refine wp_region_lit ?_
          refine wpList_run (v := .bool true) (wanted_none rfl) (ix_eql rfl rfl rfl (by decide)) ?_
          simp only [Act.put, List.setIfInBounds_toArray, List.set_cons_zero, List.set_cons_succ]
          refine wpList_run (v := .bool true) (wanted_none rfl) (gx_assign rfl rfl) ?_
          simp only [Act.put, List.setIfInBounds_toArray, List.set_cons_zero, List.set_cons_succ]
          clear hkm HKW
          as_aux_lemma =>
            go_upto_region 50 with fail
            refine wp_region_lit ?_
            refine wpList_run (v := .pointer (some ⟨z, 0, none⟩)) (wanted_none rfl) (exec_move rfl rfl) ?_
            simp only [Act.put, List.setIfInBounds_toArray, List.set_cons_zero, List.set_cons_succ]
            refine wpList_run (v := .pointer (some ⟨x, 0, none⟩)) (wanted_none rfl) (exec_move rfl rfl) ?_
            simp only [Act.put, List.setIfInBounds_toArray, List.set_cons_zero, List.set_cons_succ]
            refine wpList_run (v := .pointer (some ⟨z, 0, none⟩)) (wanted_none rfl) (gx_assign rfl rfl) ?_
            simp only [Act.put, List.setIfInBounds_toArray, List.set_cons_zero, List.set_cons_succ]
            refine wpList_run (v := .pointer (some ⟨x, 0, none⟩)) (wanted_none rfl) (gx_assign rfl rfl) ?_
            simp only [Act.put, List.setIfInBounds_toArray, List.set_cons_zero, List.set_cons_succ]
            go_upto_region 51 with fail
            refine wp_region_lit ?_
            refine wpList_run (v := .pointer (some ⟨u, 0, none⟩)) (wanted_none rfl) (exec_move rfl rfl) ?_
            simp only [Act.put, List.setIfInBounds_toArray, List.set_cons_zero, List.set_cons_succ]
            refine wpList_run (v := .pointer (some ⟨y, 0, none⟩)) (wanted_none rfl) (exec_move rfl rfl) ?_
            simp only [Act.put, List.setIfInBounds_toArray, List.set_cons_zero, List.set_cons_succ]
            refine wpList_run (v := .pointer (some ⟨u, 0, none⟩)) (wanted_none rfl) (gx_assign rfl rfl) ?_
            simp only [Act.put, List.setIfInBounds_toArray, List.set_cons_zero, List.set_cons_succ]
            refine wpList_run (v := .pointer (some ⟨y, 0, none⟩)) (wanted_none rfl) (gx_assign rfl rfl) ?_
            simp only [Act.put, List.setIfInBounds_toArray, List.set_cons_zero, List.set_cons_succ]
            go_wp2_with fail
            go_meet
            exact ⟨z, u, x, y, F2, G2, Z2, F, G, Z, s2, s, a2, a, rfl, rfl, rfl, rfl, HQ8.out.swap.mono (Nat.le_succ i), HG2.out.mono (Nat.le_succ i), HG.out.mono (Nat.le_succ i), HB7.out, HB8.out, HT8.out⟩
        · go_upto_region 18 with fail
          refine wp_region_lit ?_
          refine wpList_run (v := .bool false) (wanted_none rfl) (ix_eql rfl rfl rfl (by decide)) ?_
          simp only [Act.put, List.setIfInBounds_toArray, List.set_cons_zero, List.set_cons_succ]
          refine wpList_run (v := .bool false) (wanted_none rfl) (gx_assign rfl rfl) ?_
          simp only [Act.put, List.setIfInBounds_toArray, List.set_cons_zero, List.set_cons_succ]
          go_upto_region 19 with fail
          refine wp_region_lit ?_
          refine wpList_run (v := .bool false) (wanted_none rfl) (ix_eql rfl rfl rfl (by decide)) ?_
          simp only [Act.put, List.setIfInBounds_toArray, List.set_cons_zero, List.set_cons_succ]
          refine wpList_run (v := .bool false) (wanted_none rfl) (gx_assign rfl rfl) ?_
          simp only [Act.put, List.setIfInBounds_toArray, List.set_cons_zero, List.set_cons_succ]
          go_upto_region 20 with fail
          refine wp_region_lit ?_
          refine wpList_run (v := .bool false) (wanted_none rfl) (ix_eql rfl rfl rfl (by decide)) ?_
          simp only [Act.put, List.setIfInBounds_toArray, List.set_cons_zero, List.set_cons_succ]
          refine wpList_run (v := .bool false) (wanted_none rfl) (gx_assign rfl rfl) ?_
          simp only [Act.put, List.setIfInBounds_toArray, List.set_cons_zero, List.set_cons_succ]
          go_upto_region 25 with fail
          refine wp_region_lit ?_
          refine wpList_run (v := .bool false) (wanted_none rfl) (ix_eql rfl rfl rfl (by decide)) ?_
          simp only [Act.put, List.setIfInBounds_toArray, List.set_cons_zero, List.set_cons_succ]
          refine wpList_run (v := .bool false) (wanted_none rfl) (gx_assign rfl rfl) ?_
          simp only [Act.put, List.setIfInBounds_toArray, List.set_cons_zero, List.set_cons_succ]
          go_upto_region 30 with fail
          refine wp_region_lit ?_
          refine wpList_run (v := .bool false) (wanted_none rfl) (ix_eql rfl rfl rfl (by decide)) ?_
          simp only [Act.put, List.setIfInBounds_toArray, List.set_cons_zero, List.set_cons_succ]
          refine wpList_run (v := .bool false) (wanted_none rfl) (gx_assign rfl rfl) ?_
          simp only [Act.put, List.setIfInBounds_toArray, List.set_cons_zero, List.set_cons_succ]
          go_upto_region 36 with fail
          refine wp_region_lit ?_
          refine wpList_run (v := .bool false) (wanted_none rfl) (ix_eql rfl rfl rfl (by decide)) ?_
          simp only [Act.put, List.setIfInBounds_toArray, List.set_cons_zero, List.set_cons_succ]
          refine wpList_run (v := .bool false) (wanted_none rfl) (gx_assign rfl rfl) ?_
          simp only [Act.put, List.setIfInBounds_toArray, List.set_cons_zero, List.set_cons_succ]
          go_upto_region 39 with fail
          refine wp_region_lit ?_
          refine wpList_run (v := .bool false) (wanted_none rfl) (ix_eql rfl rfl rfl (by decide)) ?_
          simp only [Act.put, List.setIfInBounds_toArray, List.set_cons_zero, List.set_cons_succ]
          refine wpList_run (v := .bool false) (wanted_none rfl) (gx_assign rfl rfl) ?_
          simp only [Act.put, List.setIfInBounds_toArray, List.set_cons_zero, List.set_cons_succ]
          go_upto_region 42 with fail
          refine wp_region_lit ?_
          refine wpList_run (v := .bool false) (wanted_none rfl) (ix_eql rfl rfl rfl (by decide)) ?_
          simp only [Act.put, List.setIfInBounds_toArray, List.set_cons_zero, List.set_cons_succ]
          refine wpList_run (v := .bool false) (wanted_none rfl) (gx_assign rfl rfl) ?_
          simp only [Act.put, List.setIfInBounds_toArray, List.set_cons_zero, List.set_cons_succ]
          go_upto_region 49 with fail
          refine wp_region_lit ?_
          refine wpList_run (v := .bool false) (wanted_none rfl) (ix_eql rfl rfl rfl (by decide)) ?_
          simp only [Act.put, List.setIfInBounds_toArray, List.set_cons_zero, List.set_cons_succ]
          refine wpList_run (v := .bool false) (wanted_none rfl) (gx_assign rfl rfl) ?_
          simp only [Act.put, List.setIfInBounds_toArray, List.set_cons_zero, List.set_cons_succ]
          go_upto_region 52 with fail
          refine wp_region_lit ?_
          refine wpList_run (v := .bool true) (wanted_none rfl) (ix_eql rfl rfl rfl (by decide)) ?_
          simp only [Act.put, List.setIfInBounds_toArray, List.set_cons_zero, List.set_cons_succ]
          refine wpList_run (v := .bool true) (wanted_none rfl) (gx_assign rfl rfl) ?_
          simp only [Act.put, List.setIfInBounds_toArray, List.set_cons_zero, List.set_cons_succ]
          clear hkm HKW
          as_aux_lemma =>
            have HB78 := Lib.hid HB7.out
            have HB88 := Lib.hid HB8.out
            by_cases hin : 0 ≤ o.n ∧ o.n ≤ 70
            · obtain ⟨nn, hnn⟩ : ∃ nn : Nat, (nn : Int) = o.n := ⟨o.n.toNat, by omega⟩
              have hnn70 : nn ≤ 70 := by omega
              go_upto_region 53 with fail
              refine wp_region_lit ?_
              refine wpList_run (v := .pointer (some ⟨g7, 3, none⟩)) (wanted_none rfl) (exec_field (off := 0) (d := 3) rfl rfl (by kernel_rfl)) ?_
              simp only [Act.put, List.setIfInBounds_toArray, List.set_cons_zero, List.set_cons_succ]
              refine wpList_run (v := .int .i64 (nn : Int)) (wanted_none rfl) (by rw [hnn]; exact exec_load1 rfl rfl (by kernel_rfl) (HB7.out.cell 3)) ?_
              simp only [Act.put, List.setIfInBounds_toArray, List.set_cons_zero, List.set_cons_succ]
              refine wpList_run (v := .int .i64 (nn : Int)) (wanted_none rfl) (gx_assign rfl rfl) ?_
              simp only [Act.put, List.setIfInBounds_toArray, List.set_cons_zero, List.set_cons_succ]
              clear hnn hin
              go_upto_region 54 with fail
              refine wp_region_lit ?_
              refine wpList_run (v := .int .i64 (nn : Int)) (wanted_none rfl) (exec_move rfl rfl) ?_
              simp only [Act.put, List.setIfInBounds_toArray, List.set_cons_zero, List.set_cons_succ]
              refine wpList_run (v := .bool false) (wanted_none rfl) (ix_lss rfl rfl rfl (decide_eq_false (by omega))) ?_
              simp only [Act.put, List.setIfInBounds_toArray, List.set_cons_zero, List.set_cons_succ]
              refine wpList_run (v := .bool false) (wanted_none rfl) (exec_move rfl rfl) ?_
              simp only [Act.put, List.setIfInBounds_toArray, List.set_cons_zero, List.set_cons_succ]
              refine wpList_run (v := .int .i64 (nn : Int)) rfl (exec_move rfl rfl) ?_
              simp only [Act.put, List.setIfInBounds_toArray, List.set_cons_zero, List.set_cons_succ]
              refine wpList_run (v := .bool false) rfl (ix_gtr rfl rfl rfl (decide_eq_false (by omega))) ?_
              simp only [Act.put, List.setIfInBounds_toArray, List.set_cons_zero, List.set_cons_succ]
              refine wpList_run (v := .bool false) (wanted_none rfl) (ix_pickF rfl rfl rfl) ?_
              simp only [Act.put, List.setIfInBounds_toArray, List.set_cons_zero, List.set_cons_succ]
              as_aux_lemma =>
                obtain ⟨ec, s', a', hlk, hlr, hwx, hwy⟩ := wr_both HG.out (by omega) o.dev o.place nn zeroSec
                have HLK := Lib.hid hlk
                have HLR := Lib.hid hlr
                have HWY := Lib.hid hwy
                have HWX := Lib.hid hwx
                obtain ⟨wd, hwd⟩ : ∃ v, v = w9.drew := ⟨_, rfl⟩
                have htd : Turn nowhere w9 wd := by rw [hwd]; exact (Turn.refl _ _).drew
                obtain ⟨w10, hmk, hmb, hmt⟩ := made_bytes wd nn hnn70
                have HMK := Lib.hid hmk
                have htt := htd.trans hmt fun _ _ e => e
                have HQ10 := Lib.hid (HQ8.out.still htt)
                have HT10 := Lib.hid (HT8.out.trans htt fun _ _ e => e)
                have HB710 := Lib.hid (HB7.out.turn htt fun e => e)
                have HB810 := Lib.hid (HB8.out.turn htt fun e => e)
                have HWX1 := Lib.hid (HWX.out w10 x F (some ⟨wd.heap.size, 0, none⟩) nn HQ10.out.px fun e => by
                  subst e
                  exact hmb)
                have hS7 := HB7.out.turn htd fun e => e
                clear hlk hlr hwx hwy hmk hmb hmt htt htd HWX
                go_upto_region 56 with fail
                refine wp_region_alw (fun W => Blk W g7 35 o.arr) (by kernel_rfl) ?_
                rw [← hwd]
                have hS0 := hS7
                clear hwd hS7
                refine alw_take (i := 0) (v := .pointer (some ⟨x, 0, none⟩)) rfl (by kernel_rfl) (by kernel_rfl) (fun _ _ _ h => h) (.inl ⟨by rfl, fun W hW => exec_move rfl rfl⟩) hS0 ?_
                simp only [Act.put, List.setIfInBounds_toArray, List.set_cons_zero, List.set_cons_succ]
                refine alw_take (i := 1) (v := .pointer (some ⟨g7, 1, none⟩)) rfl (by kernel_rfl) (by kernel_rfl) (fun _ _ _ h => h) (.inl ⟨by rfl, fun W hW => exec_field (off := 0) (d := 1) rfl rfl (by kernel_rfl)⟩) hS0 ?_
                simp only [Act.put, List.setIfInBounds_toArray, List.set_cons_zero, List.set_cons_succ]
                refine alw_take (i := 2) (v := .int .i64 o.dev) rfl (by kernel_rfl) (by kernel_rfl) (fun _ _ _ h => h) (.inl ⟨by rfl, fun W hW => exec_load1 rfl rfl (by kernel_rfl) (hW.cell 1)⟩) hS0 ?_
                simp only [Act.put, List.setIfInBounds_toArray, List.set_cons_zero, List.set_cons_succ]
                refine alw_take (i := 3) (v := .pointer (some ⟨g7, 2, none⟩)) rfl (by kernel_rfl) (by kernel_rfl) (fun _ _ _ h => h) (.inl ⟨by rfl, fun W hW => exec_field (off := 0) (d := 2) rfl rfl (by kernel_rfl)⟩) hS0 ?_
                simp only [Act.put, List.setIfInBounds_toArray, List.set_cons_zero, List.set_cons_succ]
                refine alw_take (i := 4) (v := .int .i64 o.place) rfl (by kernel_rfl) (by kernel_rfl) (fun _ _ _ h => h) (.inl ⟨by rfl, fun W hW => exec_load1 rfl rfl (by kernel_rfl) (hW.cell 2)⟩) hS0 ?_
                simp only [Act.put, List.setIfInBounds_toArray, List.set_cons_zero, List.set_cons_succ]
                refine alw_take (i := 5) (v := .int .i64 (nn : Int)) rfl (by kernel_rfl) (by kernel_rfl) (fun _ _ _ h => h) (.inl ⟨by rfl, fun W hW => exec_move rfl rfl⟩) hS0 ?_
                simp only [Act.put, List.setIfInBounds_toArray, List.set_cons_zero, List.set_cons_succ]
                refine alw_step (i := 6) (by kernel_rfl) rfl rfl ?_
                intro K1 HK1
                refine wp_run (v := .slice (some ⟨wd.heap.size, 0, none⟩) nn nn) (w' := w10) (gx_make rfl rfl rfl HMK.out) ?_
                refine HK1.out _ _ ⟨HB710.out, ?_⟩
                clear HK1
                try simp only [Act.put, List.setIfInBounds_toArray, List.set_cons_zero, List.set_cons_succ]
                refine alw_step (i := 7) (by kernel_rfl) rfl rfl ?_
                intro K1 HK1
                go_wp2_with fail
                refine (HWX1.out).mono ?_
                rintro e w11 ⟨rfl, hg⟩
                obtain ⟨F', hq, ht⟩ := HQ10.out.gx hg (Nat.le_succ i)
                have HKT := Lib.hid ht
                refine HK1.out _ _ ⟨kept_7 HB710.out HKT.out, ?_⟩
                clear HK1
                try simp only [Act.put, List.setIfInBounds_toArray, List.set_cons_zero, List.set_cons_succ]
                have HQ11 := Lib.hid hq
                have HT11 := Lib.hid (kept_old HT10.out ht)
                have HB711 := Lib.hid (kept_7 HB710.out ht)
                have HB811 := Lib.hid (kept_8 HB810.out ht)
                have HGN := Lib.hid (show Gd s' a' (i + 1) from Gd.of hq.px HLK.out HLR.out)
                have hS0 := HB711.out
                clear hg hq ht HWX1 HKT HMK
                refine alw_take (i := 8) (v := .int .i64 ec) rfl (by kernel_rfl) (by kernel_rfl) (fun _ _ _ h => h) (.inl ⟨by rfl, fun W hW => gx_assign rfl rfl⟩) hS0 ?_
                simp only [Act.put, List.setIfInBounds_toArray, List.set_cons_zero, List.set_cons_succ]
                refine alw_done rfl ?_
                refine NoPanic.normal ?_
                clear hS0
                try simp only [Act.put, List.setIfInBounds_toArray, List.set_cons_zero, List.set_cons_succ]
                obtain ⟨we, hwe⟩ : ∃ v, v = w11.drew := ⟨_, rfl⟩
                have htd : Turn nowhere w11 we := by rw [hwe]; exact (Turn.refl _ _).drew
                obtain ⟨w12, hmk, hmb, hmt⟩ := made_bytes we nn hnn70
                have HMK := Lib.hid hmk
                have htt := htd.trans hmt fun _ _ e => e
                have HQ12 := Lib.hid (HQ11.out.still htt)
                have HT12 := Lib.hid (HT11.out.trans htt fun _ _ e => e)
                have HB712 := Lib.hid (HB711.out.turn htt fun e => e)
                have HB812 := Lib.hid (HB811.out.turn htt fun e => e)
                have HWY1 := Lib.hid (HWY.out w12 y G Z (some ⟨we.heap.size, 0, none⟩) nn HQ12.out.py fun e => by
                  subst e
                  refine ⟨hmb, fun b' off s' e => ?_⟩
                  injection e with e
                  injection e with e1 e2 e3
                  subst e1
                  have := HQ11.out.py.lt HQ11.out.py.self
                  have := htd.size
                  omega)
                have hS7 := HB711.out.turn htd fun e => e
                clear hmk hmb hmt htt htd HWY
                go_upto_region 57 with fail
                refine wp_region_alw (fun W => Blk W g7 35 o.arr) (by kernel_rfl) ?_
                rw [← hwe]
                have hS0 := hS7
                clear hwe hS7
                refine alw_take (i := 0) (v := .pointer (some ⟨y, 0, none⟩)) rfl (by kernel_rfl) (by kernel_rfl) (fun _ _ _ h => h) (.inl ⟨by rfl, fun W hW => exec_move rfl rfl⟩) hS0 ?_
                simp only [Act.put, List.setIfInBounds_toArray, List.set_cons_zero, List.set_cons_succ]
                refine alw_take (i := 1) (v := .pointer (some ⟨g7, 1, none⟩)) rfl (by kernel_rfl) (by kernel_rfl) (fun _ _ _ h => h) (.inl ⟨by rfl, fun W hW => exec_field (off := 0) (d := 1) rfl rfl (by kernel_rfl)⟩) hS0 ?_
                simp only [Act.put, List.setIfInBounds_toArray, List.set_cons_zero, List.set_cons_succ]
                refine alw_take (i := 2) (v := .int .i64 o.dev) rfl (by kernel_rfl) (by kernel_rfl) (fun _ _ _ h => h) (.inl ⟨by rfl, fun W hW => exec_load1 rfl rfl (by kernel_rfl) (hW.cell 1)⟩) hS0 ?_
                simp only [Act.put, List.setIfInBounds_toArray, List.set_cons_zero, List.set_cons_succ]
                refine alw_take (i := 3) (v := .pointer (some ⟨g7, 2, none⟩)) rfl (by kernel_rfl) (by kernel_rfl) (fun _ _ _ h => h) (.inl ⟨by rfl, fun W hW => exec_field (off := 0) (d := 2) rfl rfl (by kernel_rfl)⟩) hS0 ?_
                simp only [Act.put, List.setIfInBounds_toArray, List.set_cons_zero, List.set_cons_succ]
                refine alw_take (i := 4) (v := .int .i64 o.place) rfl (by kernel_rfl) (by kernel_rfl) (fun _ _ _ h => h) (.inl ⟨by rfl, fun W hW => exec_load1 rfl rfl (by kernel_rfl) (hW.cell 2)⟩) hS0 ?_
                simp only [Act.put, List.setIfInBounds_toArray, List.set_cons_zero, List.set_cons_succ]
                refine alw_take (i := 5) (v := .int .i64 (nn : Int)) rfl (by kernel_rfl) (by kernel_rfl) (fun _ _ _ h => h) (.inl ⟨by rfl, fun W hW => exec_move rfl rfl⟩) hS0 ?_
                simp only [Act.put, List.setIfInBounds_toArray, List.set_cons_zero, List.set_cons_succ]
                refine alw_step (i := 6) (by kernel_rfl) rfl rfl ?_
                intro K1 HK1
                refine wp_run (v := .slice (some ⟨we.heap.size, 0, none⟩) nn nn) (w' := w12) (gx_make rfl rfl rfl HMK.out) ?_
                refine HK1.out _ _ ⟨HB712.out, ?_⟩
                clear HK1
                try simp only [Act.put, List.setIfInBounds_toArray, List.set_cons_zero, List.set_cons_succ]
                refine alw_step (i := 7) (by kernel_rfl) rfl rfl ?_
                intro K1 HK1
                go_wp2_with fail
                refine (HWY1.out).mono ?_
                rintro e w13 ⟨rfl, hg⟩
                obtain ⟨G', Z', hq, ht⟩ := HQ12.out.ry hg
                have HKT := Lib.hid ht
                refine HK1.out _ _ ⟨kept_7 HB712.out HKT.out, ?_⟩
                clear HK1
                try simp only [Act.put, List.setIfInBounds_toArray, List.set_cons_zero, List.set_cons_succ]
                have HQ13 := Lib.hid hq
                have HT13 := Lib.hid (kept_old HT12.out ht)
                have HB713 := Lib.hid (kept_7 HB712.out ht)
                have HB813 := Lib.hid (kept_8 HB812.out ht)
                have hS0 := HB713.out
                clear hg hq ht HWY1 HKT HMK
                refine alw_take (i := 8) (v := .int .i64 ec) rfl (by kernel_rfl) (by kernel_rfl) (fun _ _ _ h => h) (.inl ⟨by rfl, fun W hW => gx_assign rfl rfl⟩) hS0 ?_
                simp only [Act.put, List.setIfInBounds_toArray, List.set_cons_zero, List.set_cons_succ]
                refine alw_done rfl ?_
                refine NoPanic.normal ?_
                clear hS0
                try simp only [Act.put, List.setIfInBounds_toArray, List.set_cons_zero, List.set_cons_succ]
                go_upto_region 58 with fail
                refine wp_region_lit ?_
                refine wpList_run (v := .int .i64 ec) (wanted_none rfl) (exec_move rfl rfl) ?_
                simp only [Act.put, List.setIfInBounds_toArray, List.set_cons_zero, List.set_cons_succ]
                refine wpList_run (v := .int .i64 ec) (wanted_none rfl) (exec_move rfl rfl) ?_
                simp only [Act.put, List.setIfInBounds_toArray, List.set_cons_zero, List.set_cons_succ]
                refine wpList_run (v := .bool false) (wanted_none rfl) (ix_neq rfl rfl rfl (decide_eq_false (fun h => h rfl))) ?_
                simp only [Act.put, List.setIfInBounds_toArray, List.set_cons_zero, List.set_cons_succ]
                go_wp2_with fail
                go_meet
                exact ⟨x, y, z, u, F', G', Z', F2, G2, Z2, s', s2, a', a2, rfl, rfl, rfl, rfl, HQ13.out, HGN.out, HG2.out.mono (Nat.le_succ i), HB713.out, HB813.out, HT13.out⟩
            · by_cases hneg : o.n < 0
              · go_upto_region 53 with fail
                refine wp_region_lit ?_
                refine wpList_run (v := .pointer (some ⟨g7, 3, none⟩)) (wanted_none rfl) (exec_field (off := 0) (d := 3) rfl rfl (by kernel_rfl)) ?_
                simp only [Act.put, List.setIfInBounds_toArray, List.set_cons_zero, List.set_cons_succ]
                refine wpList_run (v := .int .i64 o.n) (wanted_none rfl) (exec_load1 rfl rfl (by kernel_rfl) (HB7.out.cell 3)) ?_
                simp only [Act.put, List.setIfInBounds_toArray, List.set_cons_zero, List.set_cons_succ]
                refine wpList_run (v := .int .i64 o.n) (wanted_none rfl) (gx_assign rfl rfl) ?_
                simp only [Act.put, List.setIfInBounds_toArray, List.set_cons_zero, List.set_cons_succ]
                go_upto_region 54 with fail
                refine wp_region_lit ?_
                refine wpList_run (v := .int .i64 o.n) (wanted_none rfl) (exec_move rfl rfl) ?_
                simp only [Act.put, List.setIfInBounds_toArray, List.set_cons_zero, List.set_cons_succ]
                refine wpList_run (v := .bool true) (wanted_none rfl) (ix_lss rfl rfl rfl (decide_eq_true hneg)) ?_
                simp only [Act.put, List.setIfInBounds_toArray, List.set_cons_zero, List.set_cons_succ]
                refine wpList_run (v := .bool true) (wanted_none rfl) (exec_move rfl rfl) ?_
                simp only [Act.put, List.setIfInBounds_toArray, List.set_cons_zero, List.set_cons_succ]
                refine wpList_skip (by go_simp) ?_
                simp only [Act.put, List.setIfInBounds_toArray, List.set_cons_zero, List.set_cons_succ]
                refine wpList_skip (by go_simp) ?_
                simp only [Act.put, List.setIfInBounds_toArray, List.set_cons_zero, List.set_cons_succ]
                refine wpList_run (v := .bool true) (wanted_none rfl) (ix_pickT rfl rfl rfl) ?_
                simp only [Act.put, List.setIfInBounds_toArray, List.set_cons_zero, List.set_cons_succ]
                obtain ⟨nn, hnn⟩ : ∃ nn : Nat, (nn : Int) = 3 := ⟨3, rfl⟩
                have hnn70 : nn ≤ 70 := by omega
                go_upto_region 55 with fail
                refine wp_region_lit ?_
                refine wpList_run (v := .int .i64 (nn : Int)) (wanted_none rfl) (by rw [hnn]; exact gx_assign rfl rfl) ?_
                simp only [Act.put, List.setIfInBounds_toArray, List.set_cons_zero, List.set_cons_succ]
                clear hnn hin hneg
                as_aux_lemma =>
                  obtain ⟨ec, s', a', hlk, hlr, hwx, hwy⟩ := wr_both HG.out (by omega) o.dev o.place nn zeroSec
                  have HLK := Lib.hid hlk
                  have HLR := Lib.hid hlr
                  have HWY := Lib.hid hwy
                  have HWX := Lib.hid hwx
                  obtain ⟨wd, hwd⟩ : ∃ v, v = w9.drew := ⟨_, rfl⟩
                  have htd : Turn nowhere w9 wd := by rw [hwd]; exact (Turn.refl _ _).drew
                  obtain ⟨w10, hmk, hmb, hmt⟩ := made_bytes wd nn hnn70
                  have HMK := Lib.hid hmk
                  have htt := htd.trans hmt fun _ _ e => e
                  have HQ10 := Lib.hid (HQ8.out.still htt)
                  have HT10 := Lib.hid (HT8.out.trans htt fun _ _ e => e)
                  have HB710 := Lib.hid (HB7.out.turn htt fun e => e)
                  have HB810 := Lib.hid (HB8.out.turn htt fun e => e)
                  have HWX1 := Lib.hid (HWX.out w10 x F (some ⟨wd.heap.size, 0, none⟩) nn HQ10.out.px fun e => by
                    subst e
                    exact hmb)
                  have hS7 := HB7.out.turn htd fun e => e
                  clear hlk hlr hwx hwy hmk hmb hmt htt htd HWX
                  go_upto_region 56 with fail
                  refine wp_region_alw (fun W => Blk W g7 35 o.arr) (by kernel_rfl) ?_
                  rw [← hwd]
                  have hS0 := hS7
                  clear hwd hS7
                  refine alw_take (i := 0) (v := .pointer (some ⟨x, 0, none⟩)) rfl (by kernel_rfl) (by kernel_rfl) (fun _ _ _ h => h) (.inl ⟨by rfl, fun W hW => exec_move rfl rfl⟩) hS0 ?_
                  simp only [Act.put, List.setIfInBounds_toArray, List.set_cons_zero, List.set_cons_succ]
                  refine alw_take (i := 1) (v := .pointer (some ⟨g7, 1, none⟩)) rfl (by kernel_rfl) (by kernel_rfl) (fun _ _ _ h => h) (.inl ⟨by rfl, fun W hW => exec_field (off := 0) (d := 1) rfl rfl (by kernel_rfl)⟩) hS0 ?_
                  simp only [Act.put, List.setIfInBounds_toArray, List.set_cons_zero, List.set_cons_succ]
                  refine alw_take (i := 2) (v := .int .i64 o.dev) rfl (by kernel_rfl) (by kernel_rfl) (fun _ _ _ h => h) (.inl ⟨by rfl, fun W hW => exec_load1 rfl rfl (by kernel_rfl) (hW.cell 1)⟩) hS0 ?_
                  simp only [Act.put, List.setIfInBounds_toArray, List.set_cons_zero, List.set_cons_succ]
                  refine alw_take (i := 3) (v := .pointer (some ⟨g7, 2, none⟩)) rfl (by kernel_rfl) (by kernel_rfl) (fun _ _ _ h => h) (.inl ⟨by rfl, fun W hW => exec_field (off := 0) (d := 2) rfl rfl (by kernel_rfl)⟩) hS0 ?_
                  simp only [Act.put, List.setIfInBounds_toArray, List.set_cons_zero, List.set_cons_succ]
                  refine alw_take (i := 4) (v := .int .i64 o.place) rfl (by kernel_rfl) (by kernel_rfl) (fun _ _ _ h => h) (.inl ⟨by rfl, fun W hW => exec_load1 rfl rfl (by kernel_rfl) (hW.cell 2)⟩) hS0 ?_
                  simp only [Act.put, List.setIfInBounds_toArray, List.set_cons_zero, List.set_cons_succ]
                  refine alw_take (i := 5) (v := .int .i64 (nn : Int)) rfl (by kernel_rfl) (by kernel_rfl) (fun _ _ _ h => h) (.inl ⟨by rfl, fun W hW => exec_move rfl rfl⟩) hS0 ?_
                  simp only [Act.put, List.setIfInBounds_toArray, List.set_cons_zero, List.set_cons_succ]
                  refine alw_step (i := 6) (by kernel_rfl) rfl rfl ?_
                  intro K1 HK1
                  refine wp_run (v := .slice (some ⟨wd.heap.size, 0, none⟩) nn nn) (w' := w10) (gx_make rfl rfl rfl HMK.out) ?_
                  refine HK1.out _ _ ⟨HB710.out, ?_⟩
                  clear HK1
                  try simp only [Act.put, List.setIfInBounds_toArray, List.set_cons_zero, List.set_cons_succ]
                  refine alw_step (i := 7) (by kernel_rfl) rfl rfl ?_
                  intro K1 HK1
                  go_wp2_with fail
                  refine (HWX1.out).mono ?_
                  rintro e w11 ⟨rfl, hg⟩
                  obtain ⟨F', hq, ht⟩ := HQ10.out.gx hg (Nat.le_succ i)
                  have HKT := Lib.hid ht
                  refine HK1.out _ _ ⟨kept_7 HB710.out HKT.out, ?_⟩
                  clear HK1
                  try simp only [Act.put, List.setIfInBounds_toArray, List.set_cons_zero, List.set_cons_succ]
                  have HQ11 := Lib.hid hq
                  have HT11 := Lib.hid (kept_old HT10.out ht)
                  have HB711 := Lib.hid (kept_7 HB710.out ht)
                  have HB811 := Lib.hid (kept_8 HB810.out ht)
                  have HGN := Lib.hid (show Gd s' a' (i + 1) from Gd.of hq.px HLK.out HLR.out)
                  have hS0 := HB711.out
                  clear hg hq ht HWX1 HKT HMK
                  refine alw_take (i := 8) (v := .int .i64 ec) rfl (by kernel_rfl) (by kernel_rfl) (fun _ _ _ h => h) (.inl ⟨by rfl, fun W hW => gx_assign rfl rfl⟩) hS0 ?_
                  simp only [Act.put, List.setIfInBounds_toArray, List.set_cons_zero, List.set_cons_succ]
                  refine alw_done rfl ?_
                  refine NoPanic.normal ?_
                  clear hS0
                  try simp only [Act.put, List.setIfInBounds_toArray, List.set_cons_zero, List.set_cons_succ]
                  obtain ⟨we, hwe⟩ : ∃ v, v = w11.drew := ⟨_, rfl⟩
                  have htd : Turn nowhere w11 we := by rw [hwe]; exact (Turn.refl _ _).drew
                  obtain ⟨w12, hmk, hmb, hmt⟩ := made_bytes we nn hnn70
                  have HMK := Lib.hid hmk
                  have htt := htd.trans hmt fun _ _ e => e
                  have HQ12 := Lib.hid (HQ11.out.still htt)
                  have HT12 := Lib.hid (HT11.out.trans htt fun _ _ e => e)
                  have HB712 := Lib.hid (HB711.out.turn htt fun e => e)
                  have HB812 := Lib.hid (HB811.out.turn htt fun e => e)
                  have HWY1 := Lib.hid (HWY.out w12 y G Z (some ⟨we.heap.size, 0, none⟩) nn HQ12.out.py fun e => by
                    subst e
                    refine ⟨hmb, fun b' off s' e => ?_⟩
                    injection e with e
                    injection e with e1 e2 e3
                    subst e1
                    have := HQ11.out.py.lt HQ11.out.py.self
                    have := htd.size
                    omega)
                  have hS7 := HB711.out.turn htd fun e => e
                  clear hmk hmb hmt htt htd HWY
                  go_upto_region 57 with fail
                  refine wp_region_alw (fun W => Blk W g7 35 o.arr) (by kernel_rfl) ?_
                  rw [← hwe]
                  have hS0 := hS7
                  clear hwe hS7
                  refine alw_take (i := 0) (v := .pointer (some ⟨y, 0, none⟩)) rfl (by kernel_rfl) (by kernel_rfl) (fun _ _ _ h => h) (.inl ⟨by rfl, fun W hW => exec_move rfl rfl⟩) hS0 ?_
                  simp only [Act.put, List.setIfInBounds_toArray, List.set_cons_zero, List.set_cons_succ]
                  refine alw_take (i := 1) (v := .pointer (some ⟨g7, 1, none⟩)) rfl (by kernel_rfl) (by kernel_rfl) (fun _ _ _ h => h) (.inl ⟨by rfl, fun W hW => exec_field (off := 0) (d := 1) rfl rfl (by kernel_rfl)⟩) hS0 ?_
                  simp only [Act.put, List.setIfInBounds_toArray, List.set_cons_zero, List.set_cons_succ]
                  refine alw_take (i := 2) (v := .int .i64 o.dev) rfl (by kernel_rfl) (by kernel_rfl) (fun _ _ _ h => h) (.inl ⟨by rfl, fun W hW => exec_load1 rfl rfl (by kernel_rfl) (hW.cell 1)⟩) hS0 ?_
                  simp only [Act.put, List.setIfInBounds_toArray, List.set_cons_zero, List.set_cons_succ]
                  refine alw_take (i := 3) (v := .pointer (some ⟨g7, 2, none⟩)) rfl (by kernel_rfl) (by kernel_rfl) (fun _ _ _ h => h) (.inl ⟨by rfl, fun W hW => exec_field (off := 0) (d := 2) rfl rfl (by kernel_rfl)⟩) hS0 ?_
                  simp only [Act.put, List.setIfInBounds_toArray, List.set_cons_zero, List.set_cons_succ]
                  refine alw_take (i := 4) (v := .int .i64 o.place) rfl (by kernel_rfl) (by kernel_rfl) (fun _ _ _ h => h) (.inl ⟨by rfl, fun W hW => exec_load1 rfl rfl (by kernel_rfl) (hW.cell 2)⟩) hS0 ?_
                  simp only [Act.put, List.setIfInBounds_toArray, List.set_cons_zero, List.set_cons_succ]
                  refine alw_take (i := 5) (v := .int .i64 (nn : Int)) rfl (by kernel_rfl) (by kernel_rfl) (fun _ _ _ h => h) (.inl ⟨by rfl, fun W hW => exec_move rfl rfl⟩) hS0 ?_
                  simp only [Act.put, List.setIfInBounds_toArray, List.set_cons_zero, List.set_cons_succ]
                  refine alw_step (i := 6) (by kernel_rfl) rfl rfl ?_
                  intro K1 HK1
                  refine wp_run (v := .slice (some ⟨we.heap.size, 0, none⟩) nn nn) (w' := w12) (gx_make rfl rfl rfl HMK.out) ?_
                  refine HK1.out _ _ ⟨HB712.out, ?_⟩
                  clear HK1
                  try simp only [Act.put, List.setIfInBounds_toArray, List.set_cons_zero, List.set_cons_succ]
                  refine alw_step (i := 7) (by kernel_rfl) rfl rfl ?_
                  intro K1 HK1
                  go_wp2_with fail
                  refine (HWY1.out).mono ?_
                  rintro e w13 ⟨rfl, hg⟩
                  obtain ⟨G', Z', hq, ht⟩ := HQ12.out.ry hg
                  have HKT := Lib.hid ht
                  refine HK1.out _ _ ⟨kept_7 HB712.out HKT.out, ?_⟩
                  clear HK1
                  try simp only [Act.put, List.setIfInBounds_toArray, List.set_cons_zero, List.set_cons_succ]
                  have HQ13 := Lib.hid hq
                  have HT13 := Lib.hid (kept_old HT12.out ht)
                  have HB713 := Lib.hid (kept_7 HB712.out ht)
                  have HB813 := Lib.hid (kept_8 HB812.out ht)
                  have hS0 := HB713.out
                  clear hg hq ht HWY1 HKT HMK
                  refine alw_take (i := 8) (v := .int .i64 ec) rfl (by kernel_rfl) (by kernel_rfl) (fun _ _ _ h => h) (.inl ⟨by rfl, fun W hW => gx_assign rfl rfl⟩) hS0 ?_
                  simp only [Act.put, List.setIfInBounds_toArray, List.set_cons_zero, List.set_cons_succ]
                  refine alw_done rfl ?_
                  refine NoPanic.normal ?_
                  clear hS0
                  try simp only [Act.put, List.setIfInBounds_toArray, List.set_cons_zero, List.set_cons_succ]
                  go_upto_region 58 with fail
                  refine wp_region_lit ?_
                  refine wpList_run (v := .int .i64 ec) (wanted_none rfl) (exec_move rfl rfl) ?_
                  simp only [Act.put, List.setIfInBounds_toArray, List.set_cons_zero, List.set_cons_succ]
                  refine wpList_run (v := .int .i64 ec) (wanted_none rfl) (exec_move rfl rfl) ?_
                  simp only [Act.put, List.setIfInBounds_toArray, List.set_cons_zero, List.set_cons_succ]
                  refine wpList_run (v := .bool false) (wanted_none rfl) (ix_neq rfl rfl rfl (decide_eq_false (fun h => h rfl))) ?_
                  simp only [Act.put, List.setIfInBounds_toArray, List.set_cons_zero, List.set_cons_succ]
                  go_wp2_with fail
                  go_meet
                  exact ⟨x, y, z, u, F', G', Z', F2, G2, Z2, s', s2, a', a2, rfl, rfl, rfl, rfl, HQ13.out, HGN.out, HG2.out.mono (Nat.le_succ i), HB713.out, HB813.out, HT13.out⟩
              · have hbig : 70 < o.n := by omega
                go_upto_region 53 with fail
                refine wp_region_lit ?_
                refine wpList_run (v := .pointer (some ⟨g7, 3, none⟩)) (wanted_none rfl) (exec_field (off := 0) (d := 3) rfl rfl (by kernel_rfl)) ?_
                simp only [Act.put, List.setIfInBounds_toArray, List.set_cons_zero, List.set_cons_succ]
                refine wpList_run (v := .int .i64 o.n) (wanted_none rfl) (exec_load1 rfl rfl (by kernel_rfl) (HB7.out.cell 3)) ?_
                simp only [Act.put, List.setIfInBounds_toArray, List.set_cons_zero, List.set_cons_succ]
                refine wpList_run (v := .int .i64 o.n) (wanted_none rfl) (gx_assign rfl rfl) ?_
                simp only [Act.put, List.setIfInBounds_toArray, List.set_cons_zero, List.set_cons_succ]
                go_upto_region 54 with fail
                refine wp_region_lit ?_
                refine wpList_run (v := .int .i64 o.n) (wanted_none rfl) (exec_move rfl rfl) ?_
                simp only [Act.put, List.setIfInBounds_toArray, List.set_cons_zero, List.set_cons_succ]
                refine wpList_run (v := .bool false) (wanted_none rfl) (ix_lss rfl rfl rfl (decide_eq_false hneg)) ?_
                simp only [Act.put, List.setIfInBounds_toArray, List.set_cons_zero, List.set_cons_succ]
                refine wpList_run (v := .bool false) (wanted_none rfl) (exec_move rfl rfl) ?_
                simp only [Act.put, List.setIfInBounds_toArray, List.set_cons_zero, List.set_cons_succ]
                refine wpList_run (v := .int .i64 o.n) rfl (exec_move rfl rfl) ?_
                simp only [Act.put, List.setIfInBounds_toArray, List.set_cons_zero, List.set_cons_succ]
                refine wpList_run (v := .bool true) rfl (ix_gtr rfl rfl rfl (decide_eq_true hbig)) ?_
                simp only [Act.put, List.setIfInBounds_toArray, List.set_cons_zero, List.set_cons_succ]
                refine wpList_run (v := .bool true) (wanted_none rfl) (ix_pickF rfl rfl rfl) ?_
                simp only [Act.put, List.setIfInBounds_toArray, List.set_cons_zero, List.set_cons_succ]
                clear hbig
                obtain ⟨nn, hnn⟩ : ∃ nn : Nat, (nn : Int) = 3 := ⟨3, rfl⟩
                have hnn70 : nn ≤ 70 := by omega
                go_upto_region 55 with fail
                refine wp_region_lit ?_
                refine wpList_run (v := .int .i64 (nn : Int)) (wanted_none rfl) (by rw [hnn]; exact gx_assign rfl rfl) ?_
                simp only [Act.put, List.setIfInBounds_toArray, List.set_cons_zero, List.set_cons_succ]
                clear hnn hin hneg
                as_aux_lemma =>
                  obtain ⟨ec, s', a', hlk, hlr, hwx, hwy⟩ := wr_both HG.out (by omega) o.dev o.place nn zeroSec
                  have HLK := Lib.hid hlk
                  have HLR := Lib.hid hlr
                  have HWY := Lib.hid hwy
                  have HWX := Lib.hid hwx
                  obtain ⟨wd, hwd⟩ : ∃ v, v = w9.drew := ⟨_, rfl⟩
                  have htd : Turn nowhere w9 wd := by rw [hwd]; exact (Turn.refl _ _).drew
                  obtain ⟨w10, hmk, hmb, hmt⟩ := made_bytes wd nn hnn70
                  have HMK := Lib.hid hmk
                  have htt := htd.trans hmt fun _ _ e => e
                  have HQ10 := Lib.hid (HQ8.out.still htt)
                  have HT10 := Lib.hid (HT8.out.trans htt fun _ _ e => e)
                  have HB710 := Lib.hid (HB7.out.turn htt fun e => e)
                  have HB810 := Lib.hid (HB8.out.turn htt fun e => e)
                  have HWX1 := Lib.hid (HWX.out w10 x F (some ⟨wd.heap.size, 0, none⟩) nn HQ10.out.px fun e => by
                    subst e
                    exact hmb)
                  have hS7 := HB7.out.turn htd fun e => e
                  clear hlk hlr hwx hwy hmk hmb hmt htt htd HWX
                  go_upto_region 56 with fail
                  refine wp_region_alw (fun W => Blk W g7 35 o.arr) (by kernel_rfl) ?_
                  rw [← hwd]
                  have hS0 := hS7
                  clear hwd hS7
                  refine alw_take (i := 0) (v := .pointer (some ⟨x, 0, none⟩)) rfl (by kernel_rfl) (by kernel_rfl) (fun _ _ _ h => h) (.inl ⟨by rfl, fun W hW => exec_move rfl rfl⟩) hS0 ?_
                  simp only [Act.put, List.setIfInBounds_toArray, List.set_cons_zero, List.set_cons_succ]
                  refine alw_take (i := 1) (v := .pointer (some ⟨g7, 1, none⟩)) rfl (by kernel_rfl) (by kernel_rfl) (fun _ _ _ h => h) (.inl ⟨by rfl, fun W hW => exec_field (off := 0) (d := 1) rfl rfl (by kernel_rfl)⟩) hS0 ?_
                  simp only [Act.put, List.setIfInBounds_toArray, List.set_cons_zero, List.set_cons_succ]
                  refine alw_take (i := 2) (v := .int .i64 o.dev) rfl (by kernel_rfl) (by kernel_rfl) (fun _ _ _ h => h) (.inl ⟨by rfl, fun W hW => exec_load1 rfl rfl (by kernel_rfl) (hW.cell 1)⟩) hS0 ?_
                  simp only [Act.put, List.setIfInBounds_toArray, List.set_cons_zero, List.set_cons_succ]
                  refine alw_take (i := 3) (v := .pointer (some ⟨g7, 2, none⟩)) rfl (by kernel_rfl) (by kernel_rfl) (fun _ _ _ h => h) (.inl ⟨by rfl, fun W hW => exec_field (off := 0) (d := 2) rfl rfl (by kernel_rfl)⟩) hS0 ?_
                  simp only [Act.put, List.setIfInBounds_toArray, List.set_cons_zero, List.set_cons_succ]
                  refine alw_take (i := 4) (v := .int .i64 o.place) rfl (by kernel_rfl) (by kernel_rfl) (fun _ _ _ h => h) (.inl ⟨by rfl, fun W hW => exec_load1 rfl rfl (by kernel_rfl) (hW.cell 2)⟩) hS0 ?_
                  simp only [Act.put, List.setIfInBounds_toArray, List.set_cons_zero, List.set_cons_succ]
                  refine alw_take (i := 5) (v := .int .i64 (nn : Int)) rfl (by kernel_rfl) (by kernel_rfl) (fun _ _ _ h => h) (.inl ⟨by rfl, fun W hW => exec_move rfl rfl⟩) hS0 ?_
                  simp only [Act.put, List.setIfInBounds_toArray, List.set_cons_zero, List.set_cons_succ]
                  refine alw_step (i := 6) (by kernel_rfl) rfl rfl ?_
                  intro K1 HK1
                  refine wp_run (v := .slice (some ⟨wd.heap.size, 0, none⟩) nn nn) (w' := w10) (gx_make rfl rfl rfl HMK.out) ?_
                  refine HK1.out _ _ ⟨HB710.out, ?_⟩
                  clear HK1
                  try simp only [Act.put, List.setIfInBounds_toArray, List.set_cons_zero, List.set_cons_succ]
                  refine alw_step (i := 7) (by kernel_rfl) rfl rfl ?_
                  intro K1 HK1
                  go_wp2_with fail
                  refine (HWX1.out).mono ?_
                  rintro e w11 ⟨rfl, hg⟩
                  obtain ⟨F', hq, ht⟩ := HQ10.out.gx hg (Nat.le_succ i)
                  have HKT := Lib.hid ht
                  refine HK1.out _ _ ⟨kept_7 HB710.out HKT.out, ?_⟩
                  clear HK1
                  try simp only [Act.put, List.setIfInBounds_toArray, List.set_cons_zero, List.set_cons_succ]
                  have HQ11 := Lib.hid hq
                  have HT11 := Lib.hid (kept_old HT10.out ht)
                  have HB711 := Lib.hid (kept_7 HB710.out ht)
                  have HB811 := Lib.hid (kept_8 HB810.out ht)
                  have HGN := Lib.hid (show Gd s' a' (i + 1) from Gd.of hq.px HLK.out HLR.out)
                  have hS0 := HB711.out
                  clear hg hq ht HWX1 HKT HMK
                  refine alw_take (i := 8) (v := .int .i64 ec) rfl (by kernel_rfl) (by kernel_rfl) (fun _ _ _ h => h) (.inl ⟨by rfl, fun W hW => gx_assign rfl rfl⟩) hS0 ?_
                  simp only [Act.put, List.setIfInBounds_toArray, List.set_cons_zero, List.set_cons_succ]
                  refine alw_done rfl ?_
                  refine NoPanic.normal ?_
                  clear hS0
                  try simp only [Act.put, List.setIfInBounds_toArray, List.set_cons_zero, List.set_cons_succ]
                  obtain ⟨we, hwe⟩ : ∃ v, v = w11.drew := ⟨_, rfl⟩
                  have htd : Turn nowhere w11 we := by rw [hwe]; exact (Turn.refl _ _).drew
                  obtain ⟨w12, hmk, hmb, hmt⟩ := made_bytes we nn hnn70
                  have HMK := Lib.hid hmk
                  have htt := htd.trans hmt fun _ _ e => e
                  have HQ12 := Lib.hid (HQ11.out.still htt)
                  have HT12 := Lib.hid (HT11.out.trans htt fun _ _ e => e)
                  have HB712 := Lib.hid (HB711.out.turn htt fun e => e)
                  have HB812 := Lib.hid (HB811.out.turn htt fun e => e)
                  have HWY1 := Lib.hid (HWY.out w12 y G Z (some ⟨we.heap.size, 0, none⟩) nn HQ12.out.py fun e => by
                    subst e
                    refine ⟨hmb, fun b' off s' e => ?_⟩
                    injection e with e
                    injection e with e1 e2 e3
                    subst e1
                    have := HQ11.out.py.lt HQ11.out.py.self
                    have := htd.size
                    omega)
                  have hS7 := HB711.out.turn htd fun e => e
                  clear hmk hmb hmt htt htd HWY
                  go_upto_region 57 with fail
                  refine wp_region_alw (fun W => Blk W g7 35 o.arr) (by kernel_rfl) ?_
                  rw [← hwe]
                  have hS0 := hS7
                  clear hwe hS7
                  refine alw_take (i := 0) (v := .pointer (some ⟨y, 0, none⟩)) rfl (by kernel_rfl) (by kernel_rfl) (fun _ _ _ h => h) (.inl ⟨by rfl, fun W hW => exec_move rfl rfl⟩) hS0 ?_
                  simp only [Act.put, List.setIfInBounds_toArray, List.set_cons_zero, List.set_cons_succ]
                  refine alw_take (i := 1) (v := .pointer (some ⟨g7, 1, none⟩)) rfl (by kernel_rfl) (by kernel_rfl) (fun _ _ _ h => h) (.inl ⟨by rfl, fun W hW => exec_field (off := 0) (d := 1) rfl rfl (by kernel_rfl)⟩) hS0 ?_
                  simp only [Act.put, List.setIfInBounds_toArray, List.set_cons_zero, List.set_cons_succ]
                  refine alw_take (i := 2) (v := .int .i64 o.dev) rfl (by kernel_rfl) (by kernel_rfl) (fun _ _ _ h => h) (.inl ⟨by rfl, fun W hW => exec_load1 rfl rfl (by kernel_rfl) (hW.cell 1)⟩) hS0 ?_
                  simp only [Act.put, List.setIfInBounds_toArray, List.set_cons_zero, List.set_cons_succ]
                  refine alw_take (i := 3) (v := .pointer (some ⟨g7, 2, none⟩)) rfl (by kernel_rfl) (by kernel_rfl) (fun _ _ _ h => h) (.inl ⟨by rfl, fun W hW => exec_field (off := 0) (d := 2) rfl rfl (by kernel_rfl)⟩) hS0 ?_
                  simp only [Act.put, List.setIfInBounds_toArray, List.set_cons_zero, List.set_cons_succ]
                  refine alw_take (i := 4) (v := .int .i64 o.place) rfl (by kernel_rfl) (by kernel_rfl) (fun _ _ _ h => h) (.inl ⟨by rfl, fun W hW => exec_load1 rfl rfl (by kernel_rfl) (hW.cell 2)⟩) hS0 ?_
                  simp only [Act.put, List.setIfInBounds_toArray, List.set_cons_zero, List.set_cons_succ]
                  refine alw_take (i := 5) (v := .int .i64 (nn : Int)) rfl (by kernel_rfl) (by kernel_rfl) (fun _ _ _ h => h) (.inl ⟨by rfl, fun W hW => exec_move rfl rfl⟩) hS0 ?_
                  simp only [Act.put, List.setIfInBounds_toArray, List.set_cons_zero, List.set_cons_succ]
                  refine alw_step (i := 6) (by kernel_rfl) rfl rfl ?_
                  intro K1 HK1
                  refine wp_run (v := .slice (some ⟨we.heap.size, 0, none⟩) nn nn) (w' := w12) (gx_make rfl rfl rfl HMK.out) ?_
                  refine HK1.out _ _ ⟨HB712.out, ?_⟩
                  clear HK1
                  try simp only [Act.put, List.setIfInBounds_toArray, List.set_cons_zero, List.set_cons_succ]
                  refine alw_step (i := 7) (by kernel_rfl) rfl rfl ?_
                  intro K1 HK1
                  go_wp2_with fail
                  refine (HWY1.out).mono ?_
                  rintro e w13 ⟨rfl, hg⟩
                  obtain ⟨G', Z', hq, ht⟩ := HQ12.out.ry hg
                  have HKT := Lib.hid ht
                  refine HK1.out _ _ ⟨kept_7 HB712.out HKT.out, ?_⟩
                  clear HK1
                  try simp only [Act.put, List.setIfInBounds_toArray, List.set_cons_zero, List.set_cons_succ]
                  have HQ13 := Lib.hid hq
                  have HT13 := Lib.hid (kept_old HT12.out ht)
                  have HB713 := Lib.hid (kept_7 HB712.out ht)
                  have HB813 := Lib.hid (kept_8 HB812.out ht)
                  have hS0 := HB713.out
                  clear hg hq ht HWY1 HKT HMK
                  refine alw_take (i := 8) (v := .int .i64 ec) rfl (by kernel_rfl) (by kernel_rfl) (fun _ _ _ h => h) (.inl ⟨by rfl, fun W hW => gx_assign rfl rfl⟩) hS0 ?_
                  simp only [Act.put, List.setIfInBounds_toArray, List.set_cons_zero, List.set_cons_succ]
                  refine alw_done rfl ?_
                  refine NoPanic.normal ?_
                  clear hS0
                  try simp only [Act.put, List.setIfInBounds_toArray, List.set_cons_zero, List.set_cons_succ]
                  go_upto_region 58 with fail
                  refine wp_region_lit ?_
                  refine wpList_run (v := .int .i64 ec) (wanted_none rfl) (exec_move rfl rfl) ?_
                  simp only [Act.put, List.setIfInBounds_toArray, List.set_cons_zero, List.set_cons_succ]
                  refine wpList_run (v := .int .i64 ec) (wanted_none rfl) (exec_move rfl rfl) ?_
                  simp only [Act.put, List.setIfInBounds_toArray, List.set_cons_zero, List.set_cons_succ]
                  refine wpList_run (v := .bool false) (wanted_none rfl) (ix_neq rfl rfl rfl (decide_eq_false (fun h => h rfl))) ?_
                  simp only [Act.put, List.setIfInBounds_toArray, List.set_cons_zero, List.set_cons_succ]
                  go_wp2_with fail
                  go_meet
                  exact ⟨x, y, z, u, F', G', Z', F2, G2, Z2, s', s2, a', a2, rfl, rfl, rfl, rfl, HQ13.out, HGN.out, HG2.out.mono (Nat.le_succ i), HB713.out, HB813.out, HT13.out⟩
      clear HQ8 HG HG2 HB7 HB8 HT8 HKW
      obtain ⟨x, y, z, u, F, G, Z, F2, G2, Z2, s, s2, a, a2, rfl, rfl, rfl, rfl, hq, hg, hg2, hb7, hb8, htr⟩ := hcut
      have HQ9 := Lib.hid hq
      have HG9 := Lib.hid hg
      have HG29 := Lib.hid hg2
      have HB79 := Lib.hid hb7
      have HB89 := Lib.hid hb8
      have HT9 := Lib.hid htr
      clear hq hg hg2 hb7 hb8 htr hkm
      generalize hw9 : wc = w9 at *
      clear hw9
      go_upto_region 60 with fail
      refine wp_region_lit ?_
      refine wpList_run (v := .int .i64 0) (wanted_none rfl) (gx_assign rfl rfl) ?_
      simp only [Act.put, List.setIfInBounds_toArray, List.set_cons_zero, List.set_cons_succ]
      generalize gk = gk0 at *
      generalize hwr0 : wr = wr0 at *
      clear hwr0
      go_wp2_with fail
      go_loopg [25] 64 (fun gk jv wr => ∃ (j : Nat) (cur : Array Value), jv = .int .i64 (j : Int) ∧ j + gk = 64 ∧ Blk wr g8 5 cur ∧ cur.size = 64 ∧ Turn (only g8) w9 wr)
      case atStart => exact ⟨0, _, rfl, by omega, HB89.out, (by rw [List.size_toArray, bcs_length]; exact (secO o.c o.place o.n).2), Turn.refl _ _⟩
      obtain ⟨j, cur, rfl, hgk2, hbc, hsc, htr2⟩ := hrel
      have HGK2 := Lib.hid hgk2
      have HBC := Lib.hid hbc
      have HSC := Lib.hid hsc
      have HTR2 := Lib.hid htr2
      have yj : (j : Int) ≤ 64 := by omega
      clear hgk2 hbc hsc htr2
      by_cases hjl : j < 64
      · have HJL := Lib.hid hjl
        have y6 : (j : Int) < 64 := by omega
        clear hjl
        go_upto_region 61 with fail
        refine wp_region_lit ?_
        refine wpList_run (v := .int .i64 (j : Int)) (wanted_none rfl) (exec_move rfl rfl) ?_
        simp only [Act.put, List.setIfInBounds_toArray, List.set_cons_zero, List.set_cons_succ]
        refine wpList_run (v := .slice (some ⟨g8, 0, none⟩) 64 64) (wanted_none rfl) (exec_move rfl rfl) ?_
        simp only [Act.put, List.setIfInBounds_toArray, List.set_cons_zero, List.set_cons_succ]
        refine wpList_run (v := .int .i64 64) (wanted_none rfl) (gx_len rfl rfl Try.underlying36) ?_
        simp only [Act.put, List.setIfInBounds_toArray, List.set_cons_zero, List.set_cons_succ]
        refine wpList_run (v := .bool true) (wanted_none rfl) (ix_lss rfl rfl rfl (decide_eq_true y6)) ?_
        simp only [Act.put, List.setIfInBounds_toArray, List.set_cons_zero, List.set_cons_succ]
        go_upto_region 63 with fail
        refine wp_region_lit ?_
        refine wpList_run (v := .slice (some ⟨g8, 0, none⟩) 64 64) (wanted_none rfl) (exec_move rfl rfl) ?_
        simp only [Act.put, List.setIfInBounds_toArray, List.set_cons_zero, List.set_cons_succ]
        refine wpList_run (v := .int .i64 (j : Int)) (wanted_none rfl) (exec_move rfl rfl) ?_
        simp only [Act.put, List.setIfInBounds_toArray, List.set_cons_zero, List.set_cons_succ]
        refine wpList_run (v := .pointer (some ⟨g8, 0 + j * 1, none⟩)) (wanted_none rfl) (gx_iaddr (i := j) (sz := 1) rfl rfl rfl Try.underlying36 size_byteR HJL.out rfl) ?_
        simp only [Act.put, List.setIfInBounds_toArray, List.set_cons_zero, List.set_cons_succ]
        refine wpList_storeU (0 + j * 1) (.int .u8 98) (wanted_none rfl) 5 _ _ rfl HBC.out rfl rfl (by have := HSC.out; have := HJL.out; omega) ⟨rfl, rfl⟩ (by kernel_rfl) ?_
        intro w14 hb14 ht14
        simp only [Act.put, List.setIfInBounds_toArray, List.set_cons_zero, List.set_cons_succ]
        have HX14 := Lib.hid (HTR2.out.trans ht14 fun _ _ e => e)
        have HB14 := Lib.hid hb14
        clear hb14 ht14
        go_upto_region 62 with fail
        refine wp_region_lit ?_
        refine wpList_run (v := .int .i64 (j : Int)) (wanted_none rfl) (exec_move rfl rfl) ?_
        simp only [Act.put, List.setIfInBounds_toArray, List.set_cons_zero, List.set_cons_succ]
        refine wpList_run (v := .int .i64 ((j + 1 : Nat) : Int)) (wanted_none rfl) (ix_add rfl rfl rfl (by omega) (by omega)) ?_
        simp only [Act.put, List.setIfInBounds_toArray, List.set_cons_zero, List.set_cons_succ]
        refine wpList_run (v := .int .i64 ((j + 1 : Nat) : Int)) (wanted_none rfl) (gx_assign rfl rfl) ?_
        simp only [Act.put, List.setIfInBounds_toArray, List.set_cons_zero, List.set_cons_succ]
        go_wp2_with fail
        go_roundg (64 - (j + 1))
        case measure => have := HGK2.out; have := HJL.out; omega
        case rel => exact ⟨j + 1, _, rfl, by have := HJL.out; omega, HB14.out, by have := HSC.out; simpa using this, HX14.out⟩
      · as_aux_lemma =>
          go_upto_region 61 with fail
          refine wp_region_lit ?_
          refine wpList_run (v := .int .i64 (j : Int)) (wanted_none rfl) (exec_move rfl rfl) ?_
          simp only [Act.put, List.setIfInBounds_toArray, List.set_cons_zero, List.set_cons_succ]
          refine wpList_run (v := .slice (some ⟨g8, 0, none⟩) 64 64) (wanted_none rfl) (exec_move rfl rfl) ?_
          simp only [Act.put, List.setIfInBounds_toArray, List.set_cons_zero, List.set_cons_succ]
          refine wpList_run (v := .int .i64 64) (wanted_none rfl) (gx_len rfl rfl Try.underlying36) ?_
          simp only [Act.put, List.setIfInBounds_toArray, List.set_cons_zero, List.set_cons_succ]
          refine wpList_run (v := .bool false) (wanted_none rfl) (ix_lss rfl rfl rfl (decide_eq_false (by omega))) ?_
          simp only [Act.put, List.setIfInBounds_toArray, List.set_cons_zero, List.set_cons_succ]
          clear hjl
          have HQ14 := Lib.hid (HQ9.out.poke HTR2.out (show (g8 < w.heap.size ∨ g8 = g7) ∨ g8 = g8 from .inr rfl))
          have HT14 := Lib.hid (HT9.out.trans HTR2.out fun b hb e => by have h1 : b = g8 := e; exact absurd hb (by rw [h1]; have := HG8N.out; omega))
          have HB714 := Lib.hid (HB79.out.turn HTR2.out fun e => HG78.out e)
          generalize hwq : wr = w14 at *
          clear hwq
          have HAL := Lib.hid (alike_walk HG9.out (by omega) HQ14.out.px HQ14.out.py o.dev o.place)
          go_upto_region 64 with fail
          refine wp_region_lit ?_
          refine wpList_run (v := .pointer (some ⟨x, 0, none⟩)) (wanted_none rfl) (exec_move rfl rfl) ?_
          simp only [Act.put, List.setIfInBounds_toArray, List.set_cons_zero, List.set_cons_succ]
          refine wpList_run (v := .pointer (some ⟨y, 0, none⟩)) (wanted_none rfl) (exec_move rfl rfl) ?_
          simp only [Act.put, List.setIfInBounds_toArray, List.set_cons_zero, List.set_cons_succ]
          refine wpList_run (v := .pointer (some ⟨g7, 1, none⟩)) (wanted_none rfl) (exec_field (off := 0) (d := 1) rfl rfl (by kernel_rfl)) ?_
          simp only [Act.put, List.setIfInBounds_toArray, List.set_cons_zero, List.set_cons_succ]
          refine wpList_run (v := .int .i64 o.dev) (wanted_none rfl) (exec_load1 rfl rfl (by kernel_rfl) (HB714.out.cell 1)) ?_
          simp only [Act.put, List.setIfInBounds_toArray, List.set_cons_zero, List.set_cons_succ]
          refine wpList_run (v := .pointer (some ⟨g7, 2, none⟩)) (wanted_none rfl) (exec_field (off := 0) (d := 2) rfl rfl (by kernel_rfl)) ?_
          simp only [Act.put, List.setIfInBounds_toArray, List.set_cons_zero, List.set_cons_succ]
          refine wpList_run (v := .int .i64 o.place) (wanted_none rfl) (exec_load1 rfl rfl (by kernel_rfl) (HB714.out.cell 2)) ?_
          simp only [Act.put, List.setIfInBounds_toArray, List.set_cons_zero, List.set_cons_succ]
          refine wpList_op rfl fun K9 HK9 => ?_
          go_wp2_with fail
          refine (HAL.out).mono ?_
          rintro e w15 ⟨rfl, ht⟩
          refine HK9.out _ _ ?_
          clear HK9
          try simp only [Act.put, List.setIfInBounds_toArray, List.set_cons_zero, List.set_cons_succ]
          have HQ15 := Lib.hid (HQ14.out.still ht)
          have HT15 := Lib.hid (HT14.out.trans ht fun _ _ e => e)
          have HB715 := Lib.hid (HB714.out.turn ht fun e => e)
          have HAM := Lib.hid (alike_walk HG29.out (by omega) HQ15.out.pz HQ15.out.pu o.dev o.place)
          clear ht HAL
          refine wpList_run (v := .bool true) (wanted_none rfl) (gx_assign rfl rfl) ?_
          simp only [Act.put, List.setIfInBounds_toArray, List.set_cons_zero, List.set_cons_succ]
          go_upto_region 65 with fail
          refine wp_region_lit ?_
          refine wpList_run (v := .pointer (some ⟨z, 0, none⟩)) (wanted_none rfl) (exec_move rfl rfl) ?_
          simp only [Act.put, List.setIfInBounds_toArray, List.set_cons_zero, List.set_cons_succ]
          refine wpList_run (v := .pointer (some ⟨u, 0, none⟩)) (wanted_none rfl) (exec_move rfl rfl) ?_
          simp only [Act.put, List.setIfInBounds_toArray, List.set_cons_zero, List.set_cons_succ]
          refine wpList_run (v := .pointer (some ⟨g7, 1, none⟩)) (wanted_none rfl) (exec_field (off := 0) (d := 1) rfl rfl (by kernel_rfl)) ?_
          simp only [Act.put, List.setIfInBounds_toArray, List.set_cons_zero, List.set_cons_succ]
          refine wpList_run (v := .int .i64 o.dev) (wanted_none rfl) (exec_load1 rfl rfl (by kernel_rfl) (HB715.out.cell 1)) ?_
          simp only [Act.put, List.setIfInBounds_toArray, List.set_cons_zero, List.set_cons_succ]
          refine wpList_run (v := .pointer (some ⟨g7, 2, none⟩)) (wanted_none rfl) (exec_field (off := 0) (d := 2) rfl rfl (by kernel_rfl)) ?_
          simp only [Act.put, List.setIfInBounds_toArray, List.set_cons_zero, List.set_cons_succ]
          refine wpList_run (v := .int .i64 o.place) (wanted_none rfl) (exec_load1 rfl rfl (by kernel_rfl) (HB715.out.cell 2)) ?_
          simp only [Act.put, List.setIfInBounds_toArray, List.set_cons_zero, List.set_cons_succ]
          refine wpList_op rfl fun K9 HK9 => ?_
          go_wp2_with fail
          refine (HAM.out).mono ?_
          rintro e w16 ⟨rfl, ht⟩
          refine HK9.out _ _ ?_
          clear HK9
          try simp only [Act.put, List.setIfInBounds_toArray, List.set_cons_zero, List.set_cons_succ]
          have HQ16 := Lib.hid ((HQ15.out.still ht).less (L' := LB w) fun b hb => show (b < w.heap.size ∨ b = g7) ∨ b = g8 from .inl (.inl hb))
          have HT16 := Lib.hid (HT15.out.trans ht fun _ _ e => e)
          clear ht HAM
          refine wpList_run (v := .bool true) (wanted_none rfl) (gx_assign rfl rfl) ?_
          simp only [Act.put, List.setIfInBounds_toArray, List.set_cons_zero, List.set_cons_succ]
          go_upto_region 66 with fail
          refine wp_region_lit ?_
          refine wpList_run (v := .bool true) (wanted_none rfl) (exec_move rfl rfl) ?_
          simp only [Act.put, List.setIfInBounds_toArray, List.set_cons_zero, List.set_cons_succ]
          refine wpList_run (v := .bool false) (wanted_none rfl) (ix_not (b := true) rfl rfl) ?_
          simp only [Act.put, List.setIfInBounds_toArray, List.set_cons_zero, List.set_cons_succ]
          refine wpList_run (v := .bool false) (wanted_none rfl) (exec_move rfl rfl) ?_
          simp only [Act.put, List.setIfInBounds_toArray, List.set_cons_zero, List.set_cons_succ]
          refine wpList_run (v := .bool true) rfl (exec_move rfl rfl) ?_
          simp only [Act.put, List.setIfInBounds_toArray, List.set_cons_zero, List.set_cons_succ]
          refine wpList_run (v := .bool false) rfl (ix_not (b := true) rfl rfl) ?_
          simp only [Act.put, List.setIfInBounds_toArray, List.set_cons_zero, List.set_cons_succ]
          refine wpList_run (v := .bool false) (wanted_none rfl) (ix_pickF rfl rfl rfl) ?_
          simp only [Act.put, List.setIfInBounds_toArray, List.set_cons_zero, List.set_cons_succ]
          go_upto_region 14 with fail
          refine wp_region_lit ?_
          refine wpList_run (v := .int .i64 (i : Int)) (wanted_none rfl) (exec_move rfl rfl) ?_
          simp only [Act.put, List.setIfInBounds_toArray, List.set_cons_zero, List.set_cons_succ]
          refine wpList_run (v := .int .i64 ((i + 1 : Nat) : Int)) (wanted_none rfl) (ix_add rfl rfl rfl (by omega) (by omega)) ?_
          simp only [Act.put, List.setIfInBounds_toArray, List.set_cons_zero, List.set_cons_succ]
          refine wpList_run (v := .int .i64 ((i + 1 : Nat) : Int)) (wanted_none rfl) (gx_assign rfl rfl) ?_
          simp only [Act.put, List.setIfInBounds_toArray, List.set_cons_zero, List.set_cons_succ]
          go_wp2_with fail
          go_roundg (n2 - (i + 1))
          case measure => have := HGK.out; have := HLT.out; omega
          case rel => exact ⟨i + 1, x, y, z, u, F, G, Z, F2, G2, Z2, s, s2, a, a2, rfl, rfl, rfl, rfl, rfl, by have := HLT.out; omega, HQ16.out, HG9.out, HG29.out, HT16.out⟩
    · have y3 : ¬ (i : Int) < (n2 : Int) := by omega
      clear hlt
      go_upto_region 13 with fail
      refine wp_region_lit ?_
      refine wpList_run (v := .int .i64 (i : Int)) (wanted_none rfl) (exec_move rfl rfl) ?_
      simp only [Act.put, List.setIfInBounds_toArray, List.set_cons_zero, List.set_cons_succ]
      refine wpList_run (v := .slice A2 n2 c2) (wanted_none rfl) (exec_move rfl rfl) ?_
      simp only [Act.put, List.setIfInBounds_toArray, List.set_cons_zero, List.set_cons_succ]
      refine wpList_run (v := .int .i64 (n2 : Int)) (wanted_none rfl) (gx_len rfl rfl Try.underlying23) ?_
      simp only [Act.put, List.setIfInBounds_toArray, List.set_cons_zero, List.set_cons_succ]
      refine wpList_run (v := .bool false) (wanted_none rfl) (ix_lss rfl rfl rfl (decide_eq_false y3)) ?_
      simp only [Act.put, List.setIfInBounds_toArray, List.set_cons_zero, List.set_cons_succ]
      go_upto_region 68 with fail
      refine wp_region_lit ?_
      refine wpList_run (v := .int .i64 0) (wanted_none rfl) (gx_assign rfl rfl) ?_
      simp only [Act.put, List.setIfInBounds_toArray, List.set_cons_zero, List.set_cons_succ]
      generalize gk = gk0 at *
      generalize hwr0 : wr = wr0 at *
      clear hwr0
      obtain ⟨nd, hnd⟩ : ∃ nd, nd = a.ds.length := ⟨_, rfl⟩
      have HND := Lib.hid hnd
      have HND4 := Lib.hid (show nd ≤ 4 from by obtain ⟨_, _, _, _, _, h, _⟩ := HQ.out.py.mosts; omega)
      clear hnd
      go_wp2_with fail
      go_loopg [28, 29, 30] nd (fun gk dv s29 s30 wr => ∃ d : Nat, dv = .int .i64 (d : Int) ∧ d + gk = nd ∧ Qd wr (LB w) i x F s y G Z a z F2 s2 u G2 Z2 a2 ∧ Turn nowhere w wr)
      case atStart => exact ⟨0, rfl, by omega, HQ.out, HTR.out⟩
      clear HQ HTR
      obtain ⟨d, rfl, hgk, hq, htr⟩ := hrel
      have HGKd := Lib.hid hgk
      have HQ := Lib.hid hq
      have HTR := Lib.hid htr
      obtain ⟨bm, cm, hv, wv, hmb, _, hmc⟩ := hq.py.mosts
      rw [← HND.out] at hmb
      have HMB := Lib.hid hmb
      have yd : (d : Int) ≤ (nd : Int) := by omega
      have ynd : (nd : Int) ≤ 4 := by have := HND4.out; omega
      clear hgk hq htr hmb hmc
      by_cases hdl : d < nd
      · as_aux_lemma =>
          have HDL := Lib.hid hdl
          have y4 : (d : Int) < (nd : Int) := by omega
          obtain ⟨e, he⟩ := getQ' (l := a.ds) (i := d) (by have := HND.out; omega)
          have HE := Lib.hid he
          obtain ⟨en, hen⟩ : ∃ en, en = e.1 := ⟨_, rfl⟩
          have HEN := Lib.hid hen
          have yen : (en : Int) ≤ 9223372036854775807 := by
            obtain ⟨_, _, _, _, _, _, hx, _⟩ := HQ.out.py
            have := (hx.sz e (List.mem_of_getElem? he)).2
            omega
          clear hdl he hen
          go_upto_region 69 with fail
          refine wp_region_lit ?_
          refine wpList_run (v := .int .i64 (d : Int)) (wanted_none rfl) (exec_move rfl rfl) ?_
          simp only [Act.put, List.setIfInBounds_toArray, List.set_cons_zero, List.set_cons_succ]
          refine wpList_run (v := .pointer (some ⟨y, 0, none⟩)) (wanted_none rfl) (exec_move rfl rfl) ?_
          simp only [Act.put, List.setIfInBounds_toArray, List.set_cons_zero, List.set_cons_succ]
          refine wpList_run (v := .pointer (some ⟨y, 0, none⟩)) (wanted_none rfl) (exec_nil rfl rfl) ?_
          simp only [Act.put, List.setIfInBounds_toArray, List.set_cons_zero, List.set_cons_succ]
          refine wpList_run (v := .pointer (some ⟨y, 0, none⟩)) (wanted_none rfl) (exec_field (off := 0) (d := 0) rfl rfl (by kernel_rfl)) ?_
          simp only [Act.put, List.setIfInBounds_toArray, List.set_cons_zero, List.set_cons_succ]
          refine wpList_run (v := .slice (some ⟨bm, 0, none⟩) nd cm) (wanted_none rfl) (exec_load1 rfl rfl (by kernel_rfl) (HMB.out.cell 0)) ?_
          simp only [Act.put, List.setIfInBounds_toArray, List.set_cons_zero, List.set_cons_succ]
          refine wpList_run (v := .int .i64 (nd : Int)) (wanted_none rfl) (gx_len rfl rfl Try.underlying22) ?_
          simp only [Act.put, List.setIfInBounds_toArray, List.set_cons_zero, List.set_cons_succ]
          refine wpList_run (v := .bool true) (wanted_none rfl) (ix_lss rfl rfl rfl (decide_eq_true y4)) ?_
          simp only [Act.put, List.setIfInBounds_toArray, List.set_cons_zero, List.set_cons_succ]
          go_upto_region 71 with fail
          refine wp_region_lit ?_
          refine wpList_run (v := .int .i64 0) (wanted_none rfl) (gx_assign rfl rfl) ?_
          simp only [Act.put, List.setIfInBounds_toArray, List.set_cons_zero, List.set_cons_succ]
          generalize gk = gk1 at *
          generalize hwr1 : wr = wr1 at *
          clear hwr1
          go_wp2_with fail
          go_loopg [29, 30] 41 (fun gk kv s30 wr => ∃ k : Nat, kv = .int .i64 (k : Int) ∧ k + gk = 41 ∧ k ≤ 40 ∧ Qd wr (LB w) i x F s y G Z a z F2 s2 u G2 Z2 a2 ∧ Turn nowhere w wr)
          case atStart => exact ⟨0, rfl, by omega, by omega, HQ.out, HTR.out⟩
          clear HQ HTR HMB
          obtain ⟨k, rfl, hgk, hk40, hq, htr⟩ := hrel
          have HGKk := Lib.hid hgk
          have HQ := Lib.hid hq
          have HTR := Lib.hid htr
          obtain ⟨bk, ck, hv2, wv2, hmb, _, hmc⟩ := hq.py.mosts
          rw [← HND.out] at hmb
          have HMB := Lib.hid hmb
          have HMC := Lib.hid (show wr.cell? ⟨bk, 0 + d * 1, none⟩ = some (.int .i64 (en : Int)) from by rw [Nat.zero_add, Nat.mul_one, HEN.out]; exact hmc d e HE.out)
          have yk : (k : Int) ≤ 40 := by omega
          clear hgk hk40 hq htr hmb hmc
          by_cases hke : (k : Int) ≤ (en : Int)
          · by_cases hk4 : (k : Int) < 40
            · go_upto_region 72 with fail
              refine wp_region_lit ?_
              refine wpList_run (v := .int .i64 (k : Int)) (wanted_none rfl) (exec_move rfl rfl) ?_
              simp only [Act.put, List.setIfInBounds_toArray, List.set_cons_zero, List.set_cons_succ]
              refine wpList_run (v := .pointer (some ⟨y, 0, none⟩)) (wanted_none rfl) (exec_move rfl rfl) ?_
              simp only [Act.put, List.setIfInBounds_toArray, List.set_cons_zero, List.set_cons_succ]
              refine wpList_run (v := .pointer (some ⟨y, 0, none⟩)) (wanted_none rfl) (exec_nil rfl rfl) ?_
              simp only [Act.put, List.setIfInBounds_toArray, List.set_cons_zero, List.set_cons_succ]
              refine wpList_run (v := .pointer (some ⟨y, 0, none⟩)) (wanted_none rfl) (exec_field (off := 0) (d := 0) rfl rfl (by kernel_rfl)) ?_
              simp only [Act.put, List.setIfInBounds_toArray, List.set_cons_zero, List.set_cons_succ]
              refine wpList_run (v := .slice (some ⟨bk, 0, none⟩) nd ck) (wanted_none rfl) (exec_load1 rfl rfl (by kernel_rfl) (HMB.out.cell 0)) ?_
              simp only [Act.put, List.setIfInBounds_toArray, List.set_cons_zero, List.set_cons_succ]
              refine wpList_run (v := .int .i64 (d : Int)) (wanted_none rfl) (exec_move rfl rfl) ?_
              simp only [Act.put, List.setIfInBounds_toArray, List.set_cons_zero, List.set_cons_succ]
              refine wpList_run (v := .pointer (some ⟨bk, 0 + d * 1, none⟩)) (wanted_none rfl) (gx_iaddr (i := d) (sz := 1) rfl rfl rfl Try.underlying22 size_intN HDL.out rfl) ?_
              simp only [Act.put, List.setIfInBounds_toArray, List.set_cons_zero, List.set_cons_succ]
              refine wpList_run (v := .int .i64 (en : Int)) (wanted_none rfl) (exec_load1 rfl rfl (by kernel_rfl) HMC.out) ?_
              simp only [Act.put, List.setIfInBounds_toArray, List.set_cons_zero, List.set_cons_succ]
              refine wpList_run (v := .bool true) (wanted_none rfl) (ix_leq rfl rfl rfl (decide_eq_true hke)) ?_
              simp only [Act.put, List.setIfInBounds_toArray, List.set_cons_zero, List.set_cons_succ]
              refine wpList_run (v := .bool true) (wanted_none rfl) (exec_move rfl rfl) ?_
              simp only [Act.put, List.setIfInBounds_toArray, List.set_cons_zero, List.set_cons_succ]
              refine wpList_run (v := .int .i64 (k : Int)) rfl (exec_move rfl rfl) ?_
              simp only [Act.put, List.setIfInBounds_toArray, List.set_cons_zero, List.set_cons_succ]
              refine wpList_run (v := .bool true) rfl (ix_lss rfl rfl rfl (decide_eq_true hk4)) ?_
              simp only [Act.put, List.setIfInBounds_toArray, List.set_cons_zero, List.set_cons_succ]
              refine wpList_run (v := .bool true) (wanted_none rfl) (ix_pickT rfl rfl rfl) ?_
              simp only [Act.put, List.setIfInBounds_toArray, List.set_cons_zero, List.set_cons_succ]
              have HK4 := Lib.hid hk4
              clear hke hk4
              have HAL := Lib.hid (alike_walk HG.out (by omega) HQ.out.px HQ.out.py (d : Int) (k : Int))
              go_upto_region 74 with fail
              refine wp_region_lit ?_
              refine wpList_run (v := .pointer (some ⟨x, 0, none⟩)) (wanted_none rfl) (exec_move rfl rfl) ?_
              simp only [Act.put, List.setIfInBounds_toArray, List.set_cons_zero, List.set_cons_succ]
              refine wpList_run (v := .pointer (some ⟨y, 0, none⟩)) (wanted_none rfl) (exec_move rfl rfl) ?_
              simp only [Act.put, List.setIfInBounds_toArray, List.set_cons_zero, List.set_cons_succ]
              refine wpList_run (v := .int .i64 (d : Int)) (wanted_none rfl) (exec_move rfl rfl) ?_
              simp only [Act.put, List.setIfInBounds_toArray, List.set_cons_zero, List.set_cons_succ]
              refine wpList_run (v := .int .i64 (k : Int)) (wanted_none rfl) (exec_move rfl rfl) ?_
              simp only [Act.put, List.setIfInBounds_toArray, List.set_cons_zero, List.set_cons_succ]
              refine wpList_op rfl fun K9 HK9 => ?_
              go_wp2_with fail
              refine (HAL.out).mono ?_
              rintro e w15 ⟨rfl, ht⟩
              refine HK9.out _ _ ?_
              clear HK9
              try simp only [Act.put, List.setIfInBounds_toArray, List.set_cons_zero, List.set_cons_succ]
              have HQ15 := Lib.hid (HQ.out.still ht)
              have HT15 := Lib.hid (HTR.out.trans ht fun _ _ e => e)
              clear ht HAL
              refine wpList_run (v := .bool true) (wanted_none rfl) (gx_assign rfl rfl) ?_
              simp only [Act.put, List.setIfInBounds_toArray, List.set_cons_zero, List.set_cons_succ]
              go_upto_region 75 with fail
              refine wp_region_lit ?_
              refine wpList_run (v := .bool true) (wanted_none rfl) (exec_move rfl rfl) ?_
              simp only [Act.put, List.setIfInBounds_toArray, List.set_cons_zero, List.set_cons_succ]
              refine wpList_run (v := .bool false) (wanted_none rfl) (ix_not (b := true) rfl rfl) ?_
              simp only [Act.put, List.setIfInBounds_toArray, List.set_cons_zero, List.set_cons_succ]
              go_upto_region 73 with fail
              refine wp_region_lit ?_
              refine wpList_run (v := .int .i64 (k : Int)) (wanted_none rfl) (exec_move rfl rfl) ?_
              simp only [Act.put, List.setIfInBounds_toArray, List.set_cons_zero, List.set_cons_succ]
              refine wpList_run (v := .int .i64 ((k + 1 : Nat) : Int)) (wanted_none rfl) (ix_add rfl rfl rfl (by omega) (by omega)) ?_
              simp only [Act.put, List.setIfInBounds_toArray, List.set_cons_zero, List.set_cons_succ]
              refine wpList_run (v := .int .i64 ((k + 1 : Nat) : Int)) (wanted_none rfl) (gx_assign rfl rfl) ?_
              simp only [Act.put, List.setIfInBounds_toArray, List.set_cons_zero, List.set_cons_succ]
              go_wp2_with fail
              go_roundg (41 - (k + 1))
              case measure => have := HGKk.out; have := HK4.out; omega
              case rel => exact ⟨k + 1, rfl, by have := HK4.out; omega, by have := HK4.out; omega, HQ15.out, HT15.out⟩
            · go_upto_region 72 with fail
              refine wp_region_lit ?_
              refine wpList_run (v := .int .i64 (k : Int)) (wanted_none rfl) (exec_move rfl rfl) ?_
              simp only [Act.put, List.setIfInBounds_toArray, List.set_cons_zero, List.set_cons_succ]
              refine wpList_run (v := .pointer (some ⟨y, 0, none⟩)) (wanted_none rfl) (exec_move rfl rfl) ?_
              simp only [Act.put, List.setIfInBounds_toArray, List.set_cons_zero, List.set_cons_succ]
              refine wpList_run (v := .pointer (some ⟨y, 0, none⟩)) (wanted_none rfl) (exec_nil rfl rfl) ?_
              simp only [Act.put, List.setIfInBounds_toArray, List.set_cons_zero, List.set_cons_succ]
              refine wpList_run (v := .pointer (some ⟨y, 0, none⟩)) (wanted_none rfl) (exec_field (off := 0) (d := 0) rfl rfl (by kernel_rfl)) ?_
              simp only [Act.put, List.setIfInBounds_toArray, List.set_cons_zero, List.set_cons_succ]
              refine wpList_run (v := .slice (some ⟨bk, 0, none⟩) nd ck) (wanted_none rfl) (exec_load1 rfl rfl (by kernel_rfl) (HMB.out.cell 0)) ?_
              simp only [Act.put, List.setIfInBounds_toArray, List.set_cons_zero, List.set_cons_succ]
              refine wpList_run (v := .int .i64 (d : Int)) (wanted_none rfl) (exec_move rfl rfl) ?_
              simp only [Act.put, List.setIfInBounds_toArray, List.set_cons_zero, List.set_cons_succ]
              refine wpList_run (v := .pointer (some ⟨bk, 0 + d * 1, none⟩)) (wanted_none rfl) (gx_iaddr (i := d) (sz := 1) rfl rfl rfl Try.underlying22 size_intN HDL.out rfl) ?_
              simp only [Act.put, List.setIfInBounds_toArray, List.set_cons_zero, List.set_cons_succ]
              refine wpList_run (v := .int .i64 (en : Int)) (wanted_none rfl) (exec_load1 rfl rfl (by kernel_rfl) HMC.out) ?_
              simp only [Act.put, List.setIfInBounds_toArray, List.set_cons_zero, List.set_cons_succ]
              refine wpList_run (v := .bool true) (wanted_none rfl) (ix_leq rfl rfl rfl (decide_eq_true hke)) ?_
              simp only [Act.put, List.setIfInBounds_toArray, List.set_cons_zero, List.set_cons_succ]
              refine wpList_run (v := .bool true) (wanted_none rfl) (exec_move rfl rfl) ?_
              simp only [Act.put, List.setIfInBounds_toArray, List.set_cons_zero, List.set_cons_succ]
              refine wpList_run (v := .int .i64 (k : Int)) rfl (exec_move rfl rfl) ?_
              simp only [Act.put, List.setIfInBounds_toArray, List.set_cons_zero, List.set_cons_succ]
              refine wpList_run (v := .bool false) rfl (ix_lss rfl rfl rfl (decide_eq_false hk4)) ?_
              simp only [Act.put, List.setIfInBounds_toArray, List.set_cons_zero, List.set_cons_succ]
              refine wpList_run (v := .bool false) (wanted_none rfl) (ix_pickT rfl rfl rfl) ?_
              simp only [Act.put, List.setIfInBounds_toArray, List.set_cons_zero, List.set_cons_succ]
              clear hke hk4
              go_upto_region 70 with fail
              refine wp_region_lit ?_
              refine wpList_run (v := .int .i64 (d : Int)) (wanted_none rfl) (exec_move rfl rfl) ?_
              simp only [Act.put, List.setIfInBounds_toArray, List.set_cons_zero, List.set_cons_succ]
              refine wpList_run (v := .int .i64 ((d + 1 : Nat) : Int)) (wanted_none rfl) (ix_add rfl rfl rfl (by omega) (by omega)) ?_
              simp only [Act.put, List.setIfInBounds_toArray, List.set_cons_zero, List.set_cons_succ]
              refine wpList_run (v := .int .i64 ((d + 1 : Nat) : Int)) (wanted_none rfl) (gx_assign rfl rfl) ?_
              simp only [Act.put, List.setIfInBounds_toArray, List.set_cons_zero, List.set_cons_succ]
              go_wp2_with fail
              go_roundg (nd - (d + 1))
              case measure => have := HGKd.out; have := HDL.out; omega
              case rel => exact ⟨d + 1, rfl, by have := HDL.out; omega, HQ.out, HTR.out⟩
          · go_upto_region 72 with fail
            refine wp_region_lit ?_
            refine wpList_run (v := .int .i64 (k : Int)) (wanted_none rfl) (exec_move rfl rfl) ?_
            simp only [Act.put, List.setIfInBounds_toArray, List.set_cons_zero, List.set_cons_succ]
            refine wpList_run (v := .pointer (some ⟨y, 0, none⟩)) (wanted_none rfl) (exec_move rfl rfl) ?_
            simp only [Act.put, List.setIfInBounds_toArray, List.set_cons_zero, List.set_cons_succ]
            refine wpList_run (v := .pointer (some ⟨y, 0, none⟩)) (wanted_none rfl) (exec_nil rfl rfl) ?_
            simp only [Act.put, List.setIfInBounds_toArray, List.set_cons_zero, List.set_cons_succ]
            refine wpList_run (v := .pointer (some ⟨y, 0, none⟩)) (wanted_none rfl) (exec_field (off := 0) (d := 0) rfl rfl (by kernel_rfl)) ?_
            simp only [Act.put, List.setIfInBounds_toArray, List.set_cons_zero, List.set_cons_succ]
            refine wpList_run (v := .slice (some ⟨bk, 0, none⟩) nd ck) (wanted_none rfl) (exec_load1 rfl rfl (by kernel_rfl) (HMB.out.cell 0)) ?_
            simp only [Act.put, List.setIfInBounds_toArray, List.set_cons_zero, List.set_cons_succ]
            refine wpList_run (v := .int .i64 (d : Int)) (wanted_none rfl) (exec_move rfl rfl) ?_
            simp only [Act.put, List.setIfInBounds_toArray, List.set_cons_zero, List.set_cons_succ]
            refine wpList_run (v := .pointer (some ⟨bk, 0 + d * 1, none⟩)) (wanted_none rfl) (gx_iaddr (i := d) (sz := 1) rfl rfl rfl Try.underlying22 size_intN HDL.out rfl) ?_
            simp only [Act.put, List.setIfInBounds_toArray, List.set_cons_zero, List.set_cons_succ]
            refine wpList_run (v := .int .i64 (en : Int)) (wanted_none rfl) (exec_load1 rfl rfl (by kernel_rfl) HMC.out) ?_
            simp only [Act.put, List.setIfInBounds_toArray, List.set_cons_zero, List.set_cons_succ]
            refine wpList_run (v := .bool false) (wanted_none rfl) (ix_leq rfl rfl rfl (decide_eq_false hke)) ?_
            simp only [Act.put, List.setIfInBounds_toArray, List.set_cons_zero, List.set_cons_succ]
            refine wpList_run (v := .bool false) (wanted_none rfl) (exec_move rfl rfl) ?_
            simp only [Act.put, List.setIfInBounds_toArray, List.set_cons_zero, List.set_cons_succ]
            refine wpList_skip (by go_simp) ?_
            simp only [Act.put, List.setIfInBounds_toArray, List.set_cons_zero, List.set_cons_succ]
            refine wpList_skip (by go_simp) ?_
            simp only [Act.put, List.setIfInBounds_toArray, List.set_cons_zero, List.set_cons_succ]
            refine wpList_run (v := .bool false) (wanted_none rfl) (ix_pickF rfl rfl rfl) ?_
            simp only [Act.put, List.setIfInBounds_toArray, List.set_cons_zero, List.set_cons_succ]
            clear hke
            go_upto_region 70 with fail
            refine wp_region_lit ?_
            refine wpList_run (v := .int .i64 (d : Int)) (wanted_none rfl) (exec_move rfl rfl) ?_
            simp only [Act.put, List.setIfInBounds_toArray, List.set_cons_zero, List.set_cons_succ]
            refine wpList_run (v := .int .i64 ((d + 1 : Nat) : Int)) (wanted_none rfl) (ix_add rfl rfl rfl (by omega) (by omega)) ?_
            simp only [Act.put, List.setIfInBounds_toArray, List.set_cons_zero, List.set_cons_succ]
            refine wpList_run (v := .int .i64 ((d + 1 : Nat) : Int)) (wanted_none rfl) (gx_assign rfl rfl) ?_
            simp only [Act.put, List.setIfInBounds_toArray, List.set_cons_zero, List.set_cons_succ]
            go_wp2_with fail
            go_roundg (nd - (d + 1))
            case measure => have := HGKd.out; have := HDL.out; omega
            case rel => exact ⟨d + 1, rfl, by have := HDL.out; omega, HQ.out, HTR.out⟩
      · have y4 : ¬ (d : Int) < (nd : Int) := by omega
        clear hdl
        go_upto_region 69 with fail
        refine wp_region_lit ?_
        refine wpList_run (v := .int .i64 (d : Int)) (wanted_none rfl) (exec_move rfl rfl) ?_
        simp only [Act.put, List.setIfInBounds_toArray, List.set_cons_zero, List.set_cons_succ]
        refine wpList_run (v := .pointer (some ⟨y, 0, none⟩)) (wanted_none rfl) (exec_move rfl rfl) ?_
        simp only [Act.put, List.setIfInBounds_toArray, List.set_cons_zero, List.set_cons_succ]
        refine wpList_run (v := .pointer (some ⟨y, 0, none⟩)) (wanted_none rfl) (exec_nil rfl rfl) ?_
        simp only [Act.put, List.setIfInBounds_toArray, List.set_cons_zero, List.set_cons_succ]
        refine wpList_run (v := .pointer (some ⟨y, 0, none⟩)) (wanted_none rfl) (exec_field (off := 0) (d := 0) rfl rfl (by kernel_rfl)) ?_
        simp only [Act.put, List.setIfInBounds_toArray, List.set_cons_zero, List.set_cons_succ]
        refine wpList_run (v := .slice (some ⟨bm, 0, none⟩) nd cm) (wanted_none rfl) (exec_load1 rfl rfl (by kernel_rfl) (HMB.out.cell 0)) ?_
        simp only [Act.put, List.setIfInBounds_toArray, List.set_cons_zero, List.set_cons_succ]
        refine wpList_run (v := .int .i64 (nd : Int)) (wanted_none rfl) (gx_len rfl rfl Try.underlying22) ?_
        simp only [Act.put, List.setIfInBounds_toArray, List.set_cons_zero, List.set_cons_succ]
        refine wpList_run (v := .bool false) (wanted_none rfl) (ix_lss rfl rfl rfl (decide_eq_false y4)) ?_
        simp only [Act.put, List.setIfInBounds_toArray, List.set_cons_zero, List.set_cons_succ]
        go_upto_region 77 with fail
        refine wp_region_lit ?_
        refine wpList_run (v := .bool true) (wanted_none rfl) (gx_assign rfl rfl) ?_
        simp only [Act.put, List.setIfInBounds_toArray, List.set_cons_zero, List.set_cons_succ]
        go_wp2_with fail
        go_ret
        exact ⟨rfl, HTR.out⟩
  · as_aux_lemma =>
      refine wpList_run (v := .bool true) (wanted_none rfl) (gx_assign rfl rfl) ?_
      simp only [Act.put, List.setIfInBounds_toArray, List.set_cons_zero, List.set_cons_succ]
      go_upto_region 2 with fail
      refine wp_region_lit ?_
      refine wpList_run (v := .slice A n c) (wanted_none rfl) (exec_move rfl rfl) ?_
      simp only [Act.put, List.setIfInBounds_toArray, List.set_cons_zero, List.set_cons_succ]
      have HNB := Lib.hid ((HNX.out).mono (R' := fun e w' => e = .returned (.tuple #[.pointer none, .int .i64 30]) ∧ Turn nowhere w1 w') fun e w' h => h.elim (fun h => absurd h.1 hs) fun h => h.2)
      refine wpList_op rfl fun K9 HK9 => ?_
      go_wp2_with fail
      refine (HNB.out).mono ?_
      rintro e w2 ⟨rfl, ht⟩
      refine HK9.out _ _ ?_
      clear HK9
      try simp only [Act.put, List.setIfInBounds_toArray, List.set_cons_zero, List.set_cons_succ]
      have HT2 := Lib.hid (HT1.out.trans ht fun _ _ e => e)
      have HRB := Lib.hid (rnew_no (w := w2) A n c zs (HZ.out.to HT2.out fun _ _ e => e) hs)
      clear ht
      refine wpList_run (v := .tuple #[.pointer none, .int .i64 30]) (wanted_none rfl) (exec_move rfl rfl) ?_
      simp only [Act.put, List.setIfInBounds_toArray, List.set_cons_zero, List.set_cons_succ]
      refine wpList_run (v := .pointer none) (wanted_none rfl) (ix_extract rfl rfl rfl) ?_
      simp only [Act.put, List.setIfInBounds_toArray, List.set_cons_zero, List.set_cons_succ]
      refine wpList_run (v := .int .i64 30) (wanted_none rfl) (ix_extract rfl rfl rfl) ?_
      simp only [Act.put, List.setIfInBounds_toArray, List.set_cons_zero, List.set_cons_succ]
      refine wpList_run (v := .pointer none) (wanted_none rfl) (gx_assign rfl rfl) ?_
      simp only [Act.put, List.setIfInBounds_toArray, List.set_cons_zero, List.set_cons_succ]
      refine wpList_run (v := .int .i64 30) (wanted_none rfl) (gx_assign rfl rfl) ?_
      simp only [Act.put, List.setIfInBounds_toArray, List.set_cons_zero, List.set_cons_succ]
      go_upto_region 3 with fail
      refine wp_region_lit ?_
      refine wpList_run (v := .slice A n c) (wanted_none rfl) (exec_move rfl rfl) ?_
      simp only [Act.put, List.setIfInBounds_toArray, List.set_cons_zero, List.set_cons_succ]
      refine wpList_op rfl fun K9 HK9 => ?_
      go_wp2_with fail
      refine (HRB.out).mono ?_
      rintro e w3 ⟨rfl, ht⟩
      refine HK9.out _ _ ?_
      clear HK9
      try simp only [Act.put, List.setIfInBounds_toArray, List.set_cons_zero, List.set_cons_succ]
      have HT3 := Lib.hid (HT2.out.trans ht fun _ _ e => e)
      clear ht
      refine wpList_run (v := .tuple #[.pointer none, .int .i64 30]) (wanted_none rfl) (exec_move rfl rfl) ?_
      simp only [Act.put, List.setIfInBounds_toArray, List.set_cons_zero, List.set_cons_succ]
      refine wpList_run (v := .pointer none) (wanted_none rfl) (ix_extract rfl rfl rfl) ?_
      simp only [Act.put, List.setIfInBounds_toArray, List.set_cons_zero, List.set_cons_succ]
      refine wpList_run (v := .int .i64 30) (wanted_none rfl) (ix_extract rfl rfl rfl) ?_
      simp only [Act.put, List.setIfInBounds_toArray, List.set_cons_zero, List.set_cons_succ]
      refine wpList_run (v := .pointer none) (wanted_none rfl) (gx_assign rfl rfl) ?_
      simp only [Act.put, List.setIfInBounds_toArray, List.set_cons_zero, List.set_cons_succ]
      refine wpList_run (v := .int .i64 30) (wanted_none rfl) (gx_assign rfl rfl) ?_
      simp only [Act.put, List.setIfInBounds_toArray, List.set_cons_zero, List.set_cons_succ]
      go_upto_region 4 with fail
      refine wp_region_lit ?_
      refine wpList_run (v := .bool true) (wanted_none rfl) (exec_move rfl rfl) ?_
      simp only [Act.put, List.setIfInBounds_toArray, List.set_cons_zero, List.set_cons_succ]
      refine wpList_run (v := .bool false) (wanted_none rfl) (ix_not (b := true) rfl rfl) ?_
      simp only [Act.put, List.setIfInBounds_toArray, List.set_cons_zero, List.set_cons_succ]
      refine wpList_run (v := .bool false) (wanted_none rfl) (exec_move rfl rfl) ?_
      simp only [Act.put, List.setIfInBounds_toArray, List.set_cons_zero, List.set_cons_succ]
      refine wpList_run (v := .int .i64 30) rfl (exec_move rfl rfl) ?_
      simp only [Act.put, List.setIfInBounds_toArray, List.set_cons_zero, List.set_cons_succ]
      refine wpList_run (v := .int .i64 30) rfl (exec_move rfl rfl) ?_
      simp only [Act.put, List.setIfInBounds_toArray, List.set_cons_zero, List.set_cons_succ]
      refine wpList_run (v := .bool false) rfl (ix_neq rfl rfl rfl (by decide)) ?_
      simp only [Act.put, List.setIfInBounds_toArray, List.set_cons_zero, List.set_cons_succ]
      refine wpList_run (v := .bool false) (wanted_none rfl) (ix_pickF rfl rfl rfl) ?_
      simp only [Act.put, List.setIfInBounds_toArray, List.set_cons_zero, List.set_cons_succ]
      refine wpList_run (v := .bool false) (wanted_none rfl) (exec_move rfl rfl) ?_
      simp only [Act.put, List.setIfInBounds_toArray, List.set_cons_zero, List.set_cons_succ]
      refine wpList_run (v := .pointer none) rfl (exec_move rfl rfl) ?_
      simp only [Act.put, List.setIfInBounds_toArray, List.set_cons_zero, List.set_cons_succ]
      refine wpList_run (v := .bool true) rfl (ptr_nilP rfl rfl rfl rfl) ?_
      simp only [Act.put, List.setIfInBounds_toArray, List.set_cons_zero, List.set_cons_succ]
      refine wpList_run (v := .pointer none) rfl (exec_move rfl rfl) ?_
      simp only [Act.put, List.setIfInBounds_toArray, List.set_cons_zero, List.set_cons_succ]
      refine wpList_run (v := .bool true) rfl (ptr_nilQ rfl rfl rfl rfl) ?_
      simp only [Act.put, List.setIfInBounds_toArray, List.set_cons_zero, List.set_cons_succ]
      refine wpList_run (v := .bool false) rfl (ix_bneq rfl rfl rfl rfl) ?_
      simp only [Act.put, List.setIfInBounds_toArray, List.set_cons_zero, List.set_cons_succ]
      refine wpList_run (v := .bool false) (wanted_none rfl) (ix_pickF rfl rfl rfl) ?_
      simp only [Act.put, List.setIfInBounds_toArray, List.set_cons_zero, List.set_cons_succ]
      go_upto_region 6 with fail
      refine wp_region_lit ?_
      refine wpList_run (v := .pointer none) (wanted_none rfl) (exec_move rfl rfl) ?_
      simp only [Act.put, List.setIfInBounds_toArray, List.set_cons_zero, List.set_cons_succ]
      refine wpList_run (v := .bool true) (wanted_none rfl) (ptr_nilQ rfl rfl rfl rfl) ?_
      simp only [Act.put, List.setIfInBounds_toArray, List.set_cons_zero, List.set_cons_succ]
      go_upto_region 7 with fail
      refine wp_region_lit ?_
      refine wpList_run (v := .bool true) (wanted_none rfl) (gx_assign rfl rfl) ?_
      simp only [Act.put, List.setIfInBounds_toArray, List.set_cons_zero, List.set_cons_succ]
      go_wp2_with fail
      go_ret
      exact ⟨rfl, HT3.out⟩
end Go.Proofs.Yteedjfgandgbkaa
