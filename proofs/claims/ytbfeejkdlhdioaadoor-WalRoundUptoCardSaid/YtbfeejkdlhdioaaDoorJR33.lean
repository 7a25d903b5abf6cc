/-
  Texts in one file: WmU WmV WmRoA WmBA WmBB WmFoA. Conditions: the tables and the errors read as the program's text lays them.
-/
import Derived.Test.YtbfeejkdlhdioaaDoorJR0
import Derived.Test.YtbfeejkdlhdioaaDoorJR31
import Derived.Test.YtbfeejkdlhdioaaDoorJR32
import Derived.Test.YtbfeejkdlhdioaaDoorJR3
namespace Go.Proofs.YtbfeejkdlhdioaaDoor
open Go.RowKit
open Wl (B8)
set_option linter.unusedVariables false
set_option linter.unusedSimpArgs false
set_option maxRecDepth 20000
/-- which of n things -/
def amongI (c n : Int) : Int := (if c < 0 then -(c + 1) else c).tmod n
theorem among_in {c n : Int} (hn : 0 < n) : 0 ≤ amongI c n ∧ amongI c n < n := by
  unfold amongI
  split
  · rw [Int.tmod_eq_emod_of_nonneg (by omega)]
    exact ⟨Int.emod_nonneg _ (by omega), Int.emod_lt_of_pos _ hn⟩
  · rw [Int.tmod_eq_emod_of_nonneg (by omega)]
    exact ⟨Int.emod_nonneg _ (by omega), Int.emod_lt_of_pos _ hn⟩
theorem wx_rem {a : Act} {o : Oper} {W : World} {x y : Operand} {i j : Int} (ho : o.op = .binOp .rem 3 x y 3) (hx : a.eval x = .int .i64 i) (hy : a.eval y = .int .i64 j) (hj : 0 < j) (hi : 0 ≤ i ∧ i ≤ 9223372036854775807) : (execOp a.eval o).run Tryd.prog W = .ok (.value (.int .i64 (i.tmod j))) W := by
  have h1 : 0 ≤ i.tmod j ∧ i.tmod j ≤ 9223372036854775807 := by
    rw [Int.tmod_eq_emod_of_nonneg hi.1]
    have h2 := Int.emod_nonneg i (b := j) (by omega)
    have h3 := Int.mul_ediv_add_emod i j
    have h4 := Int.mul_nonneg (show 0 ≤ j by omega) (Int.ediv_nonneg hi.1 (show 0 ≤ j by omega))
    omega
  have hne : j ≠ 0 := by omega
  unfold execOp
  simp only [ho, hx, hy]
  go_simp
  all_goals first | rfl | (rw [if_neg hne]; first | rfl | (rw [IntKind.wrap_i64 (by omega) (by omega)]; rfl) | simp) | simp [hne]
theorem wx_neg {a : Act} {o : Oper} {W : World} {x : Operand} {i r : Int} (ho : o.op = .unOp .neg 3 x) (hx : a.eval x = .int .i64 i) (h : -i = r) (hb : -9223372036854775808 ≤ r ∧ r ≤ 9223372036854775807) : (execOp a.eval o).run Tryd.prog W = .ok (.value (.int .i64 r)) W := by
  have hw : IntKind.wrap .i64 r = r := by rw [IntKind.wrap_i64]; omega
  unfold execOp
  simp only [ho, hx]
  go_simp
  try (rw [h]; exact hw)
set_option maxRecDepth 20000 in
set_option maxHeartbeats 4000000 in
theorem among_walk {w : World} (c n : Int) (hc : -9223372036854775808 ≤ c ∧ c ≤ 9223372036854775807) (hn : 0 < n) : Calls Tryd.prog 10 #[.int .i64 c, .int .i64 n] w fun r w' => r = .returned (.int .i64 (amongI c n)) ∧ w' = w := by
  have HC := Lib.hid hc
  have HN := Lib.hid hn
  clear hc hn
  go_enter Tryd.func10, Tryd.ntmps10
  go_upto_region 0 with fail
  refine wp_region_lit ?_
  refine wpList_run (v := .int .i64 0) (wanted_none rfl) (gx_assign rfl rfl) ?_
  simp only [zz]
  by_cases h0 : c < 0
  · go_upto_region 1 with fail
    refine wp_region_lit ?_
    refine wpList_run (v := .int .i64 c) (wanted_none rfl) (exec_move rfl rfl) ?_
    simp only [zz]
    refine wpList_run (v := .bool true) (wanted_none rfl) (ix_lss rfl rfl rfl (decide_eq_true h0)) ?_
    simp only [zz]
    go_upto_region 2 with fail
    refine wp_region_lit ?_
    refine wpList_run (v := .int .i64 c) (wanted_none rfl) (exec_move rfl rfl) ?_
    simp only [zz]
    refine wpList_run (v := .int .i64 (c + 1)) (wanted_none rfl) (ix_add rfl rfl rfl rfl (by have := HC.out; omega)) ?_
    simp only [zz]
    refine wpList_run (v := .int .i64 (-(c + 1))) (wanted_none rfl) (wx_neg rfl rfl rfl (by have := HC.out; omega)) ?_
    simp only [zz]
    refine wpList_run (v := .int .i64 (-(c + 1))) (wanted_none rfl) (gx_assign rfl rfl) ?_
    simp only [zz]
    go_upto_region 3 with fail
    refine wp_region_lit ?_
    refine wpList_run (v := .int .i64 (-(c + 1))) (wanted_none rfl) (exec_move rfl rfl) ?_
    simp only [zz]
    refine wpList_run (v := .int .i64 n) (wanted_none rfl) (exec_move rfl rfl) ?_
    simp only [zz]
    refine wpList_run (v := .int .i64 ((-(c + 1)).tmod n)) (wanted_none rfl) (wx_rem rfl rfl rfl HN.out (by have := HC.out; omega)) ?_
    simp only [zz]
    refine wpList_run (v := .int .i64 ((-(c + 1)).tmod n)) (wanted_none rfl) (gx_assign rfl rfl) ?_
    simp only [zz]
    go_wp2_with fail
    go_ret
    exact ⟨by unfold amongI; rw [if_pos h0]; rfl, rfl⟩
  · go_upto_region 1 with fail
    refine wp_region_lit ?_
    refine wpList_run (v := .int .i64 c) (wanted_none rfl) (exec_move rfl rfl) ?_
    simp only [zz]
    refine wpList_run (v := .bool false) (wanted_none rfl) (ix_lss rfl rfl rfl (decide_eq_false h0)) ?_
    simp only [zz]
    go_upto_region 3 with fail
    refine wp_region_lit ?_
    refine wpList_run (v := .int .i64 c) (wanted_none rfl) (exec_move rfl rfl) ?_
    simp only [zz]
    refine wpList_run (v := .int .i64 n) (wanted_none rfl) (exec_move rfl rfl) ?_
    simp only [zz]
    refine wpList_run (v := .int .i64 (c.tmod n)) (wanted_none rfl) (wx_rem rfl rfl rfl HN.out (by have := HC.out; omega)) ?_
    simp only [zz]
    refine wpList_run (v := .int .i64 (c.tmod n)) (wanted_none rfl) (gx_assign rfl rfl) ?_
    simp only [zz]
    go_wp2_with fail
    go_ret
    exact ⟨by unfold amongI; rw [if_neg (show ¬ c < 0 by omega)]; rfl, rfl⟩
end Go.Proofs.YtbfeejkdlhdioaaDoor
namespace Go.Proofs.YtbfeejkdlhdioaaDoor
open Go.RowKit
open Wl (B8 Gp)
set_option linter.unusedVariables false
set_option linter.unusedSimpArgs false
set_option maxRecDepth 20000
section
variable {w wr : World} {p S n B f N x : Nat}
theorem cost_le {l : Wl.Rec} (h : ¬ Wl.long l) : Wl.cost l ≤ 64 := by
  unfold Wl.long at h
  unfold Wl.cost
  omega
end
end Go.Proofs.YtbfeejkdlhdioaaDoor
namespace Go.Proofs.YtbfeejkdlhdioaaDoor
open Go.RowKit
open Wl (B8 Gp)
set_option linter.unusedVariables false
set_option linter.unusedSimpArgs false
set_option maxRecDepth 20000
/-- x is an open log on disk 0 of p that holds L from f on; no fuse is set; all of its blocks are newer than w; B bounds what has been done -/
def Ro (w wr : World) (p S n f B x : Nat) (L : List Wl.Rec) : Prop :=
  ∃ (F : Nat → Prop) (s : AP) (K : Nat) (d : AD) (v : WalV) (vP vH : Value) (gs : List Gp), Lg wr x p 0 F s K d S v vP vH L gs ∧ s.fuse < 0 ∧ v.first = f ∧ f + L.length ≤ B ∧ v.age ≤ B + 2 ∧ K ≤ 70000 + 100 * B ∧ d.n = (n : Int) ∧ ∀ b, F b ∨ WalG x vP vH b → w.heap.size ≤ b
section
variable {w wr : World} {p S n f B x : Nat} {L : List Wl.Rec}
theorem Ro.still {w' : World} (h : Ro w wr p S n f B x L) (ht : Turn nowhere wr w') : Ro w w' p S n f B x L := by
  obtain ⟨F, s, K, d, v, vP, vH, gs, h1, h2⟩ := h
  exact ⟨F, s, K, d, v, vP, vH, gs, h1.still ht, h2⟩
theorem Ro.mono {C : Nat} (h : Ro w wr p S n f B x L) (hC : B ≤ C) : Ro w wr p S n f C x L := by
  obtain ⟨F, s, K, d, v, vP, vH, gs, h1, h2, h3, h4, h5, h6, h7, h8⟩ := h
  exact ⟨F, s, K, d, v, vP, vH, gs, h1, h2, h3, by omega, by omega, by omega, h7, h8⟩
theorem Ro.first (h : Ro w wr p S n f B x L) : Calls Tryd.prog 21 #[.pointer (some ⟨x, 0, none⟩)] wr fun r w' => r = .returned (.int .i64 (f : Int)) ∧ w' = wr := by
  obtain ⟨F, s, K, d, v, vP, vH, gs, h1, h2, h3, _⟩ := h
  rw [← h3]
  exact First_walk h1.wb
theorem Ro.append (h : Ro w wr p S n f B x L) (hw : Turn nowhere w wr) (hB : B ≤ 100000) {A : Option Addr} {m cap : Nat} {l : Wl.Rec} (hl : Ls wr A m l) (hnl : ¬ Wl.long l) (hS : L.length + 1 < S) {i : Nat} (hi : f + L.length = i) :
    Calls Tryd.prog 13 #[.pointer (some ⟨x, 0, none⟩), .slice A m cap] wr fun r w' => r = .returned (.tuple #[.int .i64 (i : Int), .int .i64 0]) ∧ Turn nowhere w w' ∧ Ro w w' p S n f (B + 1) x (L ++ [l]) := by
  obtain ⟨F, s, K, d, v, vP, vH, gs, h1, h2, h3, h4, h5, h6, h7, h8⟩ := h
  have hz := hw.size
  refine (h1.append (cap := cap) (by omega) (by omega) (by omega) hl).mono ?_
  rintro r w' (⟨hlo, _⟩ | ⟨_, hno, _⟩ | ⟨_, ht, F', s', hF, _, _, _, hj, (⟨_, rfl, hfu, P, d', vP', gs', hlg, hdn, hnw⟩ | ⟨hfz, _⟩)⟩)
  · exact absurd hlo hnl
  · exact absurd hno (h1.lv.room hS _)
  · have hc := cost_le hnl
    refine ⟨by rw [h3, hi], hw.trans ht fun b hb e => by have := h8 b e; omega, F', s', _, d', _, vP', vH, gs', hlg, by rw [hfu h2]; exact h2, h3, by rw [List.length_append]; show f + (L.length + 1) ≤ _; omega, by show v.age ≤ _; omega, by omega, hdn.trans h7, fun b hb => ?_⟩
    rcases hb with e | e
    · rcases hF b e with e | e
      · exact h8 b (.inl e)
      · omega
    · rcases hnw b e with e | e
      · exact h8 b (.inr e)
      · omega
  · exact absurd h2 hfz
theorem Ro.cut (h : Ro w wr p S n f B x L) (hw : Turn nowhere w wr) (hB : B ≤ 100000) {i k : Nat} (hi : f + k = i) (hk : k ≤ L.length) :
    Calls Tryd.prog 18 #[.pointer (some ⟨x, 0, none⟩), .int .i64 (i : Int)] wr fun r w' => r = .returned (.int .i64 0) ∧ Turn nowhere w w' ∧ Ro w w' p S n i (B + 1) x (L.drop k) := by
  obtain ⟨F, s, K, d, v, vP, vH, gs, h1, h2, h3, h4, h5, h6, h7, h8⟩ := h
  have hz := hw.size
  refine (h1.cutw (by omega) (by omega) (by omega) (i : Int) (by omega)).mono ?_
  rintro r w' (⟨hbad, _⟩ | ⟨ht, k', F', s', hk', hkl, hF, _, _, _, hj, (⟨_, rfl, hfu, d', vP', hlg, hdn, hnw⟩ | ⟨hfz, _⟩)⟩)
  · exact absurd ⟨by omega, by omega⟩ hbad
  · obtain rfl : k = k' := by omega
    refine ⟨rfl, hw.trans ht fun b hb e => by have := h8 b e; omega, F', s', _, d', _, vP', vH, gs.drop k, hlg, by rw [hfu h2]; exact h2, by show v.first + k = i; omega, by rw [List.length_drop]; omega, by show v.age + 1 ≤ _; omega, by omega, hdn.trans h7, fun b hb => ?_⟩
    rcases hb with e | e
    · rcases hF b e with e | e
      · exact h8 b (.inl e)
      · omega
    · exact h8 b (.inr (hnw b e))
  · exact absurd h2 hfz
theorem Ro.open_ (h : Ro w wr p S n f B x L) (hw : Turn nowhere w wr) (hB : B ≤ 100000) (hS : segsN (n : Int) = S) :
    Calls Tryd.prog 20 #[.pointer (some ⟨p, 0, none⟩), .int .i64 0] wr fun r w' => Turn nowhere w w' ∧ ∃ x', r = .returned (.tuple #[.pointer (some ⟨x', 0, none⟩), .int .i64 0]) ∧ Ro w w' p S n f (B + 1) x' L := by
  obtain ⟨F, s, K, d, v, vP, vH, gs, h1, h2, h3, h4, h5, h6, h7, h8⟩ := h
  have hz := hw.size
  have hsm := h1.small
  refine (open_ok (i := 0) (f := f) (L := L) (S := S) (d := d) h1.pt h1.tab h1.tf h1.ds h1.on h1.dry (by rw [segsP_at h1.ds, h7, hS]) (by omega) (by have h := h1.lv.on.disk; rwa [h3] at h) (by rw [h1.lv.on.gr]; omega) (by omega) (by omega)).mono ?_
  rintro r w' ⟨ht, F', s', hF, _, _, _, hj, (⟨_, hfu, x', d', v', vP', vH', gs', rfl, hlg, hdn, hvf, hva, hnw⟩ | ⟨hfz, _⟩)⟩
  · refine ⟨hw.trans ht fun b hb e => by have := h8 b (.inl e); omega, x', rfl, F', s', _, d', v', vP', vH', gs', hlg, by rw [hfu h2]; exact h2, hvf, by omega, by rw [hva, h1.lv.on.gr]; omega, by omega, hdn.trans h7, fun b hb => ?_⟩
    rcases hb with e | e
    · rcases hF b e with e | e
      · exact h8 b (.inl e)
      · omega
    · have := hnw b e
      omega
  · exact absurd h2 hfz
theorem Ro.read (h : Ro w wr p S n f B x L) (hB : B ≤ 100000) {l : Wl.Rec} (hl : L[0]? = some l) :
    Calls Tryd.prog 30 #[.pointer (some ⟨x, 0, none⟩), .int .i64 (f : Int)] wr fun r w' => Turn nowhere wr w' ∧ ∃ g : Nat, r = .returned (.tuple #[.slice (some ⟨g, 0, none⟩) l.length l.length, .int .i64 0]) ∧ Ls w' (some ⟨g, 0, none⟩) l.length l := by
  obtain ⟨F, s, K, d, v, vP, vH, gs, h1, h2, h3, h4, _⟩ := h
  have hp := (List.getElem?_eq_some_iff.1 hl).1
  refine (h1.read (by omega) (f : Int) (by omega)).mono ?_
  rintro r w' ⟨ht, ⟨hbad, _⟩ | ⟨k, l', g, hk, hl', rfl, hls, _⟩⟩
  · exact absurd ⟨by omega, by omega⟩ hbad
  · obtain rfl : k = 0 := by omega
    obtain rfl : l = l' := Option.some.inj (hl.symm.trans hl')
    exact ⟨ht, g, rfl, hls⟩
end
/-- what ground makes -/
theorem ground_ro {w : World} (n : Nat) (hn : 258 ≤ n) (hn2 : n ≤ 65536) (htab : Tab w) : Calls Tryd.prog 11 #[.int .i64 (n : Int)] w fun r w' => Turn nowhere w w' ∧ ∃ p x, r = .returned (.tuple #[.pointer (some ⟨p, 0, none⟩), .pointer (some ⟨x, 0, none⟩)]) ∧ Ro w w' p ((n - 2) / 64) n 0 0 x [] := by
  refine (ground_walk n hn hn2 htab).mono ?_
  rintro r w' ⟨ht, p, x, F, s, d, v, vP, vH, rfl, hlg, hfu, hvf, hva, hdn, hF, hG, _⟩
  exact ⟨ht, p, x, rfl, F, s, _, d, v, vP, vH, [], hlg, hfu, hvf, by simp, by omega, by omega, hdn, fun b hb => hb.elim (hF b) (hG b)⟩
end Go.Proofs.YtbfeejkdlhdioaaDoor
namespace Go.Proofs.YtbfeejkdlhdioaaDoor
open Go.RowKit
open Wl (B8)
set_option linter.unusedVariables false
set_option linter.unusedSimpArgs false
set_option maxRecDepth 20000
theorem size_T8 : (Tryd.prog.info? 38).map (·.size) = some 1 := by kernel_rfl
section
variable {w w' : World} {Z Z' G : Nat → Prop} {v : Value} {x : B8} {l : Wl.Rec} {gs : List Wl.Rec} {b f : Nat}
end
end Go.Proofs.YtbfeejkdlhdioaaDoor
namespace Go.Proofs.YtbfeejkdlhdioaaDoor
open Go.RowKit
open Wl (B8)
set_option linter.unusedVariables false
set_option linter.unusedSimpArgs false
set_option maxRecDepth 20000
theorem ls_at {w : World} {A : Option Addr} {n : Nat} {l : Wl.Rec} (h : Ls w A n l) {i : Nat} {x : B8} (hx : l[i]? = some x) : ∃ g off a m q, A = some ⟨g, off, none⟩ ∧ w.cell? ⟨g, off + i * 1, none⟩ = some (.slice a m q) ∧ Bs w a m x ∧ (a = none → q = 0) ∧ m ≤ 1048576 := by
  have hi := (List.getElem?_eq_some_iff.1 hx).1
  obtain ⟨g, off, rfl, hc⟩ := h.2.2 (by have := h.1; omega)
  obtain ⟨a, m, q, h1, h2, h3, h4⟩ := hc i x hx
  exact ⟨g, off, a, m, q, rfl, by rw [Nat.mul_one]; exact h1, h2, h3, h4⟩
set_option maxRecDepth 20000 in
set_option maxHeartbeats 4000000 in
theorem same_walk {w : World} {A B : Option Addr} {n m c e : Nat} {l k : Wl.Rec} (h1 : Ls w A n l) (h2 : Ls w B m k) :
    Calls Tryd.prog 32 #[.slice A n c, .slice B m e] w fun r w' => r = .returned (.bool (decide (l = k))) ∧ Turn nowhere w w' := by
  have HA := Lib.hid h1
  have HB := Lib.hid h2
  have y1 := h1.2.1
  have y2 := h2.2.1
  have HNA := Lib.hid h1.1
  have HNB := Lib.hid h2.1
  clear h1 h2
  go_enter Tryd.func32, Tryd.ntmps32
  go_upto_region 0 with fail
  refine wp_region_lit ?_
  refine wpList_run (v := .bool false) (wanted_none rfl) (gx_assign rfl rfl) ?_
  simp only [zz]
  by_cases hnm : n = m
  · subst hnm
    go_upto_region 1 with fail
    refine wp_region_lit ?_
    refine wpList_run (v := .slice A n c) (wanted_none rfl) (exec_move rfl rfl) ?_
    simp only [zz]
    refine wpList_run (v := .int .i64 (n : Int)) (wanted_none rfl) (gx_len rfl rfl Tryd.underlying33) ?_
    simp only [zz]
    refine wpList_run (v := .slice B n e) (wanted_none rfl) (exec_move rfl rfl) ?_
    simp only [zz]
    refine wpList_run (v := .int .i64 (n : Int)) (wanted_none rfl) (gx_len rfl rfl Tryd.underlying33) ?_
    simp only [zz]
    refine wpList_run (v := .bool false) (wanted_none rfl) (ix_neq rfl rfl rfl (decide_eq_false (fun e => e rfl))) ?_
    simp only [zz]
    go_upto_region 3 with fail
    refine wp_region_lit ?_
    refine wpList_run (v := .int .i64 0) (wanted_none rfl) (gx_assign rfl rfl) ?_
    simp only [zz]
    go_wp2_with fail
    go_loopg [4, 5] n (fun gk rv iv wr => ∃ i : Nat, iv = .int .i64 (i : Int) ∧ i + gk = n ∧ l.take i = k.take i ∧ Turn nowhere w wr)
    case atStart => exact ⟨0, rfl, by omega, rfl, Turn.refl _ _⟩
    obtain ⟨i, rfl, hgk, heq, htr⟩ := hrel
    have HGK := Lib.hid hgk
    have HEQ := Lib.hid heq
    have HTR := Lib.hid htr
    have yi : (i : Int) ≤ (n : Int) := by omega
    clear hgk heq htr
    by_cases hlt : i < n
    · have HLT := Lib.hid hlt
      have y3 : (i : Int) < (n : Int) := by omega
      obtain ⟨x, hx⟩ : ∃ x, l[i]? = some x := ⟨l[i]'(by rw [HNA.out]; exact hlt), List.getElem?_eq_getElem (by rw [HNA.out]; exact hlt)⟩
      obtain ⟨y, hy⟩ : ∃ y, k[i]? = some y := ⟨k[i]'(by rw [HNB.out]; exact hlt), List.getElem?_eq_getElem (by rw [HNB.out]; exact hlt)⟩
      obtain ⟨g1, o1, a1, m1, q1, rfl, hc1, hb1, _⟩ := ls_at (HA.out.still HTR.out) hx
      obtain ⟨g2, o2, a2, m2, q2, rfl, hc2, hb2, _⟩ := ls_at (HB.out.still HTR.out) hy
      have HX := Lib.hid hx
      have HY := Lib.hid hy
      have HT2 := Lib.hid (HTR.out.trans (Turn.refl nowhere wr).drew fun _ _ e => e)
      have HC1 := Lib.hid (show wr.drew.cell? ⟨g1, o1 + i * 1, none⟩ = some (.slice a1 m1 q1) from hc1)
      have HC2 := Lib.hid (show wr.drew.cell? ⟨g2, o2 + i * 1, none⟩ = some (.slice a2 m2 q2) from hc2)
      have HB1 := Lib.hid (show Bs wr.drew a1 m1 x from hb1)
      have HB2 := Lib.hid (show Bs wr.drew a2 m2 y from hb2)
      clear hlt hc1 hc2 hb1 hb2 hx hy
      go_upto_region 4 with fail
      refine wp_region_lit ?_
      refine wpList_run (v := .int .i64 (i : Int)) (wanted_none rfl) (exec_move rfl rfl) ?_
      simp only [zz]
      refine wpList_run (v := .slice (some ⟨g1, o1, none⟩) n c) (wanted_none rfl) (exec_move rfl rfl) ?_
      simp only [zz]
      refine wpList_run (v := .int .i64 (n : Int)) (wanted_none rfl) (gx_len rfl rfl Tryd.underlying33) ?_
      simp only [zz]
      refine wpList_run (v := .bool true) (wanted_none rfl) (ix_lss rfl rfl rfl (decide_eq_true y3)) ?_
      simp only [zz]
      go_upto_region 6 with fail
      refine wp_region_alw (fun W9 => W9 = wr.drew) (by kernel_rfl) ?_
      have hS0 : (fun W9 => W9 = wr.drew) wr.drew := rfl
      generalize wr.drew = wd at *
      by_cases hxy : x = y
      · have HXY := Lib.hid hxy
        have HEQ2 := Lib.hid (show l.take (i + 1) = k.take (i + 1) from by rw [List.take_add_one, List.take_add_one, HX.out, HY.out, HEQ.out, hxy])
        clear hxy
        refine alw_take (i := 0) (v := .slice (some ⟨g1, o1, none⟩) n c) rfl (by kernel_rfl) (by kernel_rfl) (fun _ _ _ h => h) (.inl ⟨by rfl, fun W hW => exec_move rfl rfl⟩) hS0 ?_
        simp only [zz]
        refine alw_take (i := 1) (v := .int .i64 (i : Int)) rfl (by kernel_rfl) (by kernel_rfl) (fun _ _ _ h => h) (.inl ⟨by rfl, fun W hW => exec_move rfl rfl⟩) hS0 ?_
        simp only [zz]
        refine alw_take (i := 2) (v := .pointer (some ⟨g1, o1 + i * 1, none⟩)) rfl (by kernel_rfl) (by kernel_rfl) (fun _ _ _ h => h) (.inl ⟨by rfl, fun W hW => gx_iaddr (i := i) (sz := 1) rfl rfl rfl Tryd.underlying33 size_T8 HLT.out rfl⟩) hS0 ?_
        simp only [zz]
        refine alw_take (i := 3) (v := .slice a1 m1 q1) rfl (by kernel_rfl) (by kernel_rfl) (fun _ _ _ h => h) (.inl ⟨by rfl, fun W hW => by subst hW; exact exec_load1 rfl rfl (by kernel_rfl) HC1.out⟩) hS0 ?_
        simp only [zz]
        refine alw_take (i := 4) (v := strV x) rfl (by kernel_rfl) (by kernel_rfl) (fun _ _ _ h => h) (.inl ⟨by rfl, fun W hW => by subst hW; exact exec_strBs rfl rfl HB1.out⟩) hS0 ?_
        simp only [zz]
        refine alw_take (i := 5) (v := .slice (some ⟨g2, o2, none⟩) n e) rfl (by kernel_rfl) (by kernel_rfl) (fun _ _ _ h => h) (.inl ⟨by rfl, fun W hW => exec_move rfl rfl⟩) hS0 ?_
        simp only [zz]
        refine alw_take (i := 6) (v := .int .i64 (i : Int)) rfl (by kernel_rfl) (by kernel_rfl) (fun _ _ _ h => h) (.inl ⟨by rfl, fun W hW => exec_move rfl rfl⟩) hS0 ?_
        simp only [zz]
        refine alw_take (i := 7) (v := .pointer (some ⟨g2, o2 + i * 1, none⟩)) rfl (by kernel_rfl) (by kernel_rfl) (fun _ _ _ h => h) (.inl ⟨by rfl, fun W hW => gx_iaddr (i := i) (sz := 1) rfl rfl rfl Tryd.underlying33 size_T8 HLT.out rfl⟩) hS0 ?_
        simp only [zz]
        refine alw_take (i := 8) (v := .slice a2 m2 q2) rfl (by kernel_rfl) (by kernel_rfl) (fun _ _ _ h => h) (.inl ⟨by rfl, fun W hW => by subst hW; exact exec_load1 rfl rfl (by kernel_rfl) HC2.out⟩) hS0 ?_
        simp only [zz]
        refine alw_take (i := 9) (v := strV y) rfl (by kernel_rfl) (by kernel_rfl) (fun _ _ _ h => h) (.inl ⟨by rfl, fun W hW => by subst hW; exact exec_strBs rfl rfl HB2.out⟩) hS0 ?_
        simp only [zz]
        refine alw_take (i := 10) (v := .bool false) rfl (by kernel_rfl) (by kernel_rfl) (fun _ _ _ h => h) (.inl ⟨by rfl, fun W hW => (exec_sneq rfl rfl rfl).trans (by rw [beq_iff_eq.2 HXY.out]; rfl)⟩) hS0 ?_
        simp only [zz]
        refine alw_done rfl ?_
        refine NoPanic.normal ?_
        clear hS0
        try simp only [zz]
        go_upto_region 5 with fail
        refine wp_region_lit ?_
        refine wpList_run (v := .int .i64 (i : Int)) (wanted_none rfl) (exec_move rfl rfl) ?_
        simp only [zz]
        refine wpList_run (v := .int .i64 ((i + 1 : Nat) : Int)) (wanted_none rfl) (ix_add rfl rfl rfl (by omega) (by omega)) ?_
        simp only [zz]
        refine wpList_run (v := .int .i64 ((i + 1 : Nat) : Int)) (wanted_none rfl) (gx_assign rfl rfl) ?_
        simp only [zz]
        go_wp2_with fail
        go_roundg (n - (i + 1))
        case measure => have := HGK.out; have := HLT.out; omega
        case rel => exact ⟨i + 1, rfl, by have := HLT.out; omega, HEQ2.out, HT2.out⟩
      · have HXY := Lib.hid hxy
        have HNE := Lib.hid (show decide (l = k) = false from decide_eq_false fun e => by
          have h1 := HX.out
          rw [e, HY.out] at h1
          exact hxy (Option.some.inj h1).symm)
        clear hxy
        refine alw_take (i := 0) (v := .slice (some ⟨g1, o1, none⟩) n c) rfl (by kernel_rfl) (by kernel_rfl) (fun _ _ _ h => h) (.inl ⟨by rfl, fun W hW => exec_move rfl rfl⟩) hS0 ?_
        simp only [zz]
        refine alw_take (i := 1) (v := .int .i64 (i : Int)) rfl (by kernel_rfl) (by kernel_rfl) (fun _ _ _ h => h) (.inl ⟨by rfl, fun W hW => exec_move rfl rfl⟩) hS0 ?_
        simp only [zz]
        refine alw_take (i := 2) (v := .pointer (some ⟨g1, o1 + i * 1, none⟩)) rfl (by kernel_rfl) (by kernel_rfl) (fun _ _ _ h => h) (.inl ⟨by rfl, fun W hW => gx_iaddr (i := i) (sz := 1) rfl rfl rfl Tryd.underlying33 size_T8 HLT.out rfl⟩) hS0 ?_
        simp only [zz]
        refine alw_take (i := 3) (v := .slice a1 m1 q1) rfl (by kernel_rfl) (by kernel_rfl) (fun _ _ _ h => h) (.inl ⟨by rfl, fun W hW => by subst hW; exact exec_load1 rfl rfl (by kernel_rfl) HC1.out⟩) hS0 ?_
        simp only [zz]
        refine alw_take (i := 4) (v := strV x) rfl (by kernel_rfl) (by kernel_rfl) (fun _ _ _ h => h) (.inl ⟨by rfl, fun W hW => by subst hW; exact exec_strBs rfl rfl HB1.out⟩) hS0 ?_
        simp only [zz]
        refine alw_take (i := 5) (v := .slice (some ⟨g2, o2, none⟩) n e) rfl (by kernel_rfl) (by kernel_rfl) (fun _ _ _ h => h) (.inl ⟨by rfl, fun W hW => exec_move rfl rfl⟩) hS0 ?_
        simp only [zz]
        refine alw_take (i := 6) (v := .int .i64 (i : Int)) rfl (by kernel_rfl) (by kernel_rfl) (fun _ _ _ h => h) (.inl ⟨by rfl, fun W hW => exec_move rfl rfl⟩) hS0 ?_
        simp only [zz]
        refine alw_take (i := 7) (v := .pointer (some ⟨g2, o2 + i * 1, none⟩)) rfl (by kernel_rfl) (by kernel_rfl) (fun _ _ _ h => h) (.inl ⟨by rfl, fun W hW => gx_iaddr (i := i) (sz := 1) rfl rfl rfl Tryd.underlying33 size_T8 HLT.out rfl⟩) hS0 ?_
        simp only [zz]
        refine alw_take (i := 8) (v := .slice a2 m2 q2) rfl (by kernel_rfl) (by kernel_rfl) (fun _ _ _ h => h) (.inl ⟨by rfl, fun W hW => by subst hW; exact exec_load1 rfl rfl (by kernel_rfl) HC2.out⟩) hS0 ?_
        simp only [zz]
        refine alw_take (i := 9) (v := strV y) rfl (by kernel_rfl) (by kernel_rfl) (fun _ _ _ h => h) (.inl ⟨by rfl, fun W hW => by subst hW; exact exec_strBs rfl rfl HB2.out⟩) hS0 ?_
        simp only [zz]
        refine alw_take (i := 10) (v := .bool true) rfl (by kernel_rfl) (by kernel_rfl) (fun _ _ _ h => h) (.inl ⟨by rfl, fun W hW => (exec_sneq rfl rfl rfl).trans (by rw [beq_eq_false_iff_ne.2 HXY.out]; rfl)⟩) hS0 ?_
        simp only [zz]
        refine alw_done rfl ?_
        refine NoPanic.normal ?_
        clear hS0
        try simp only [zz]
        go_upto_region 7 with fail
        refine wp_region_lit ?_
        refine wpList_run (v := .bool false) (wanted_none rfl) (gx_assign rfl rfl) ?_
        simp only [zz]
        go_wp2_with fail
        go_ret
        rw [HNE.out]
        exact ⟨rfl, HT2.out⟩
    · obtain rfl : i = n := by omega
      have y3 : ¬ (i : Int) < (i : Int) := by omega
      have HE := Lib.hid (show decide (l = k) = true from decide_eq_true (by
        have h1 := HEQ.out
        rwa [List.take_of_length_le (by rw [HNA.out]; exact Nat.le_refl _), List.take_of_length_le (by rw [HNB.out]; exact Nat.le_refl _)] at h1))
      clear hlt
      go_upto_region 4 with fail
      refine wp_region_lit ?_
      refine wpList_run (v := .int .i64 (i : Int)) (wanted_none rfl) (exec_move rfl rfl) ?_
      simp only [zz]
      refine wpList_run (v := .slice A i c) (wanted_none rfl) (exec_move rfl rfl) ?_
      simp only [zz]
      refine wpList_run (v := .int .i64 (i : Int)) (wanted_none rfl) (gx_len rfl rfl Tryd.underlying33) ?_
      simp only [zz]
      refine wpList_run (v := .bool false) (wanted_none rfl) (ix_lss rfl rfl rfl (decide_eq_false y3)) ?_
      simp only [zz]
      go_upto_region 8 with fail
      refine wp_region_lit ?_
      refine wpList_run (v := .bool true) (wanted_none rfl) (gx_assign rfl rfl) ?_
      simp only [zz]
      go_wp2_with fail
      go_ret
      rw [HE.out]
      exact ⟨rfl, HTR.out⟩
  · have HNE := Lib.hid (show decide (l = k) = false from decide_eq_false fun e => hnm (by rw [← HNA.out, ← HNB.out, e]))
    have y3 : ¬ (n : Int) = (m : Int) := by omega
    clear hnm
    go_upto_region 1 with fail
    refine wp_region_lit ?_
    refine wpList_run (v := .slice A n c) (wanted_none rfl) (exec_move rfl rfl) ?_
    simp only [zz]
    refine wpList_run (v := .int .i64 (n : Int)) (wanted_none rfl) (gx_len rfl rfl Tryd.underlying33) ?_
    simp only [zz]
    refine wpList_run (v := .slice B m e) (wanted_none rfl) (exec_move rfl rfl) ?_
    simp only [zz]
    refine wpList_run (v := .int .i64 (m : Int)) (wanted_none rfl) (gx_len rfl rfl Tryd.underlying33) ?_
    simp only [zz]
    refine wpList_run (v := .bool true) (wanted_none rfl) (ix_neq rfl rfl rfl (decide_eq_true y3)) ?_
    simp only [zz]
    go_upto_region 2 with fail
    refine wp_region_lit ?_
    refine wpList_run (v := .bool false) (wanted_none rfl) (gx_assign rfl rfl) ?_
    simp only [zz]
    go_wp2_with fail
    go_ret
    rw [HNE.out]
    exact ⟨rfl, Turn.refl _ _⟩
end Go.Proofs.YtbfeejkdlhdioaaDoor
namespace Go.Proofs.YtbfeejkdlhdioaaDoor
open Go.RowKit
open Wl (B8)
set_option linter.unusedVariables false
set_option linter.unusedSimpArgs false
set_option maxRecDepth 20000
theorem size_le {l : Wl.Rec} (h : ∀ x ∈ l, x.length ≤ 1048576) : Wl.size l ≤ l.length * 1048576 := by
  induction l with
  | nil => exact Nat.zero_le _
  | cons x r ih =>
    have h1 := ih fun y hy => h y (List.mem_cons_of_mem _ hy)
    have h2 := h x (List.mem_cons_self ..)
    unfold Wl.size at h1 ⊢
    simp only [List.map_cons, List.sum_cons, List.length_cons]
    omega
instance longDec (l : Wl.Rec) : Decidable (Wl.long l) := by unfold Wl.long; infer_instance
set_option maxRecDepth 20000 in
set_option maxHeartbeats 4000000 in
theorem bytes_walk {w : World} {A : Option Addr} {n c : Nat} {l : Wl.Rec} (h1 : Ls w A n l) :
    Calls Tryd.prog 41 #[.slice A n c] w fun r w' => r = .returned (.int .i64 (Wl.size l : Int)) ∧ w' = w := by
  have HA := Lib.hid h1
  have y1 := h1.2.1
  have HNA := Lib.hid h1.1
  have HTX := Lib.hid (show ∀ x ∈ l, x.length ≤ 1048576 from fun x hx => by
    obtain ⟨i, hi⟩ := List.getElem?_of_mem hx
    obtain ⟨_, _, a, m, q, _, _, hb, _, hm⟩ := ls_at h1 hi
    have := hb.1
    omega)
  clear h1
  go_enter Tryd.func41, Tryd.ntmps41
  go_upto_region 0 with fail
  refine wp_region_lit ?_
  refine wpList_run (v := .int .i64 0) (wanted_none rfl) (gx_assign rfl rfl) ?_
  simp only [zz]
  go_upto_region 1 with fail
  refine wp_region_lit ?_
  refine wpList_run (v := .int .i64 0) (wanted_none rfl) (gx_assign rfl rfl) ?_
  simp only [zz]
  go_upto_region 2 with fail
  refine wp_region_lit ?_
  refine wpList_run (v := .int .i64 0) (wanted_none rfl) (gx_assign rfl rfl) ?_
  simp only [zz]
  go_wp2_with fail
  go_loopg [3, 4] n (fun gk sv iv wr => ∃ i : Nat, iv = .int .i64 (i : Int) ∧ i + gk = n ∧ sv = .int .i64 (Wl.size (l.take i) : Int) ∧ wr = w)
  case atStart => exact ⟨0, rfl, by omega, rfl, rfl⟩
  obtain ⟨i, rfl, hgk, rfl, hw⟩ := hrel
  subst hw
  have HGK := Lib.hid hgk
  have yi : (i : Int) ≤ (n : Int) := by omega
  clear hgk
  obtain ⟨sz, hsz⟩ : ∃ z, z = Wl.size (l.take i) := ⟨_, rfl⟩
  rw [← hsz]
  have HSZ := Lib.hid hsz
  have ysz : sz ≤ i * 1048576 := by
    have h9 := size_le (l := l.take i) fun x hx => HTX.out x (List.mem_of_mem_take hx)
    have h8 : (l.take i).length = i := by rw [List.length_take, HNA.out]; omega
    rw [h8] at h9
    omega
  clear hsz
  by_cases hlt : i < n
  · have HLT := Lib.hid hlt
    have y3 : (i : Int) < (n : Int) := by omega
    obtain ⟨x, hx⟩ : ∃ x, l[i]? = some x := ⟨l[i]'(by rw [HNA.out]; exact hlt), List.getElem?_eq_getElem (by rw [HNA.out]; exact hlt)⟩
    obtain ⟨g1, o1, a1, m1, q1, rfl, hc1, hb1, _, hm1⟩ := ls_at HA.out hx
    have HC1 := Lib.hid hc1
    have hst := size_take hx
    have HST := Lib.hid (show Wl.size (l.take (i + 1)) = sz + m1 from by rw [hst, ← HSZ.out, hb1.1])
    have ym1 := hm1
    clear hlt hc1 hb1 hm1 hx hst
    go_upto_region 3 with fail
    refine wp_region_lit ?_
    refine wpList_run (v := .int .i64 (i : Int)) (wanted_none rfl) (exec_move rfl rfl) ?_
    simp only [zz]
    refine wpList_run (v := .slice (some ⟨g1, o1, none⟩) n c) (wanted_none rfl) (exec_move rfl rfl) ?_
    simp only [zz]
    refine wpList_run (v := .int .i64 (n : Int)) (wanted_none rfl) (gx_len rfl rfl Tryd.underlying33) ?_
    simp only [zz]
    refine wpList_run (v := .bool true) (wanted_none rfl) (ix_lss rfl rfl rfl (decide_eq_true y3)) ?_
    simp only [zz]
    go_upto_region 5 with fail
    refine wp_region_lit ?_
    refine wpList_run (v := .int .i64 (sz : Int)) (wanted_none rfl) (exec_move rfl rfl) ?_
    simp only [zz]
    refine wpList_run (v := .slice (some ⟨g1, o1, none⟩) n c) (wanted_none rfl) (exec_move rfl rfl) ?_
    simp only [zz]
    refine wpList_run (v := .int .i64 (i : Int)) (wanted_none rfl) (exec_move rfl rfl) ?_
    simp only [zz]
    refine wpList_run (v := .pointer (some ⟨g1, o1 + i * 1, none⟩)) (wanted_none rfl) (gx_iaddr (i := i) (sz := 1) rfl rfl rfl Tryd.underlying33 size_T8 HLT.out rfl) ?_
    simp only [zz]
    refine wpList_run (v := .slice a1 m1 q1) (wanted_none rfl) (exec_load1 rfl rfl (by kernel_rfl) HC1.out) ?_
    simp only [zz]
    refine wpList_run (v := .int .i64 (m1 : Int)) (wanted_none rfl) (gx_len rfl rfl Tryd.underlying38) ?_
    simp only [zz]
    refine wpList_run (v := .int .i64 ((sz + m1 : Nat) : Int)) (wanted_none rfl) (ix_add rfl rfl rfl (by omega) (by omega)) ?_
    simp only [zz]
    refine wpList_run (v := .int .i64 ((sz + m1 : Nat) : Int)) (wanted_none rfl) (gx_assign rfl rfl) ?_
    simp only [zz]
    go_upto_region 4 with fail
    refine wp_region_lit ?_
    refine wpList_run (v := .int .i64 (i : Int)) (wanted_none rfl) (exec_move rfl rfl) ?_
    simp only [zz]
    refine wpList_run (v := .int .i64 ((i + 1 : Nat) : Int)) (wanted_none rfl) (ix_add rfl rfl rfl (by omega) (by omega)) ?_
    simp only [zz]
    refine wpList_run (v := .int .i64 ((i + 1 : Nat) : Int)) (wanted_none rfl) (gx_assign rfl rfl) ?_
    simp only [zz]
    go_wp2_with fail
    go_roundg (n - (i + 1))
    case measure => have := HGK.out; have := HLT.out; omega
    case rel => exact ⟨i + 1, rfl, by have := HLT.out; omega, by rw [HST.out], rfl⟩
  · obtain rfl : i = n := by omega
    have y3 : ¬ (i : Int) < (i : Int) := by omega
    have HF := Lib.hid (show Wl.size l = sz from by rw [HSZ.out, List.take_of_length_le (by rw [HNA.out]; exact Nat.le_refl _)])
    clear hlt
    go_upto_region 3 with fail
    refine wp_region_lit ?_
    refine wpList_run (v := .int .i64 (i : Int)) (wanted_none rfl) (exec_move rfl rfl) ?_
    simp only [zz]
    refine wpList_run (v := .slice A i c) (wanted_none rfl) (exec_move rfl rfl) ?_
    simp only [zz]
    refine wpList_run (v := .int .i64 (i : Int)) (wanted_none rfl) (gx_len rfl rfl Tryd.underlying33) ?_
    simp only [zz]
    refine wpList_run (v := .bool false) (wanted_none rfl) (ix_lss rfl rfl rfl (decide_eq_false y3)) ?_
    simp only [zz]
    go_upto_region 6 with fail
    refine wp_region_lit ?_
    refine wpList_run (v := .int .i64 (sz : Int)) (wanted_none rfl) (exec_move rfl rfl) ?_
    simp only [zz]
    refine wpList_run (v := .int .i64 (sz : Int)) (wanted_none rfl) (gx_assign rfl rfl) ?_
    simp only [zz]
    go_wp2_with fail
    go_ret
    rw [HF.out]
    exact ⟨rfl, rfl⟩
set_option maxRecDepth 20000 in
set_option maxHeartbeats 4000000 in
theorem long_walk {w : World} {A : Option Addr} {n c : Nat} {l : Wl.Rec} (h1 : Ls w A n l) :
    Calls Tryd.prog 14 #[.slice A n c] w fun r w' => r = .returned (.bool (decide (Wl.long l))) ∧ w' = w := by
  have HA := Lib.hid h1
  have y1 := h1.2.1
  have HNA := Lib.hid h1.1
  clear h1
  go_enter Tryd.func14, Tryd.ntmps14
  go_upto_region 0 with fail
  refine wp_region_lit ?_
  refine wpList_run (v := .bool false) (wanted_none rfl) (gx_assign rfl rfl) ?_
  simp only [zz]
  by_cases h16 : 16 < n
  · have HF := Lib.hid (show decide (Wl.long l) = true from decide_eq_true (.inl (by rw [HNA.out]; exact h16)))
    have y2 : 16 < (n : Int) := by omega
    clear h16
    go_upto_region 1 with fail
    refine wp_region_lit ?_
    refine wpList_run (v := .slice A n c) (wanted_none rfl) (exec_move rfl rfl) ?_
    simp only [zz]
    refine wpList_run (v := .int .i64 (n : Int)) (wanted_none rfl) (gx_len rfl rfl Tryd.underlying33) ?_
    simp only [zz]
    refine wpList_run (v := .bool true) (wanted_none rfl) (ix_gtr rfl rfl rfl (decide_eq_true y2)) ?_
    simp only [zz]
    refine wpList_run (v := .bool true) (wanted_none rfl) (exec_move rfl rfl) ?_
    simp only [zz]
    refine wpList_skip (by go_simp) ?_
    simp only [zz]
    refine wpList_skip (by go_simp) ?_
    simp only [zz]
    refine wpList_skip (by go_simp) ?_
    simp only [zz]
    refine wpList_run (v := .bool true) (wanted_none rfl) (ix_pickT rfl rfl rfl) ?_
    simp only [zz]
    refine wpList_run (v := .bool true) (wanted_none rfl) (gx_assign rfl rfl) ?_
    simp only [zz]
    go_wp2_with fail
    go_ret
    rw [HF.out]
    exact ⟨rfl, rfl⟩
  · have HF := Lib.hid (show decide (Wl.long l) = decide (2048 < (Wl.size l : Int)) from decide_eq_decide.2 (by
      unfold Wl.long
      have := HNA.out
      omega))
    have y2 : ¬ 16 < (n : Int) := by omega
    clear h16
    go_upto_region 1 with fail
    refine wp_region_lit ?_
    refine wpList_run (v := .slice A n c) (wanted_none rfl) (exec_move rfl rfl) ?_
    simp only [zz]
    refine wpList_run (v := .int .i64 (n : Int)) (wanted_none rfl) (gx_len rfl rfl Tryd.underlying33) ?_
    simp only [zz]
    refine wpList_run (v := .bool false) (wanted_none rfl) (ix_gtr rfl rfl rfl (decide_eq_false y2)) ?_
    simp only [zz]
    refine wpList_run (v := .bool false) (wanted_none rfl) (exec_move rfl rfl) ?_
    simp only [zz]
    refine wpList_run (v := .slice A n c) rfl (exec_move rfl rfl) ?_
    simp only [zz]
    refine wpList_op (by go_simp) fun K9 HK9 => ?_
    go_wp2_with fail
    refine (bytes_walk (c := c) HA.out).mono ?_
    rintro e w ⟨rfl, rfl⟩
    refine HK9.out _ _ ?_
    clear HK9
    try simp only [zz]
    refine wpList_run (v := .bool (decide (2048 < (Wl.size l : Int)))) rfl (ix_gtr rfl rfl rfl rfl) ?_
    simp only [zz]
    refine wpList_run (v := .bool (decide (2048 < (Wl.size l : Int)))) (wanted_none rfl) (ix_pickF rfl rfl rfl) ?_
    simp only [zz]
    refine wpList_run (v := .bool (decide (2048 < (Wl.size l : Int)))) (wanted_none rfl) (gx_assign rfl rfl) ?_
    simp only [zz]
    go_wp2_with fail
    go_ret
    rw [HF.out]
    exact ⟨rfl, rfl⟩
end Go.Proofs.YtbfeejkdlhdioaaDoor
