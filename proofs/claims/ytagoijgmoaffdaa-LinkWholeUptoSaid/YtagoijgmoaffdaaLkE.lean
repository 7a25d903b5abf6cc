/-
  link's New, Held, Reset, Feed, Pack, walked. Conditions: what a link holds and what it is fed are together at most 2^43 bytes.
-/
import Derived.Test.YtagoijgmoaffdaaLkD
namespace Go.Proofs.Ytagoijgmoaffdaa
open Go.RowKit
open Lkk
set_option linter.unusedVariables false
set_option linter.unusedSimpArgs false
/-- a link: where it stands, the slice that it holds -/
structure Lk (w : World) (p : Nat) (v : Value) (h : List UInt8) : Prop where
  blk : Blk w p 47 #[v]
  own : Own w 0 5 v h
def foot (p : Nat) (v : Value) : Nat → Prop := fun k => k = p ∨ v.ownBlock = some k
theorem Lk.ne {w : World} {p : Nat} {v : Value} {h : List UInt8} (hL : Lk w p v h) : ¬ (v.ownBlock = some p) := fun e => row_ne hL.own hL.blk (by decide) e.symm
theorem Lk.lt {w : World} {p : Nat} {v : Value} {h : List UInt8} (hL : Lk w p v h) : ∀ k, foot p v k → k < w.heap.size := fun k hk => by
  rcases hk with rfl | hk
  · exact hL.blk.lt
  · exact own_lt hL.own hk
theorem Lk.turn {w w' : World} {p : Nat} {v : Value} {h : List UInt8} {F : Nat → Prop} (hL : Lk w p v h) (ht : Turn F w w') (hn : ∀ k, foot p v k → ¬ F k) : Lk w' p v h :=
  ⟨hL.blk.turn ht (hn p (.inl rfl)), hL.own.turn ht fun k hk => hn k (.inr hk)⟩
theorem newL_walk (w : World) : Calls Try.prog 12 #[] w fun e w' => ∃ p, e = .returned (.pointer (some ⟨p, 0, none⟩)) ∧ Lk w' p (.slice none 0 0) [] ∧ Turn nowhere w w' ∧ w.heap.size ≤ p := by
  have hbuild : ∀ W, (Instr.build 47 #[]).run Try.prog W = .ok (.agg #[.slice none 0 0]) W := fun W => by kernel_rfl
  go_enter Try.func12, Try.ntmps12
  go_wp2
  go_ret
  exact ⟨w.heap.size, rfl, ⟨Blk.new w _ _, Own.none_ _ _ _⟩, (Turn.refl _ w).alloc _, Nat.le_refl _⟩
theorem held_walk {w : World} {p : Nat} {v : Value} {h : List UInt8} (hL : Lk w p v h) : Calls Try.prog 17 #[.pointer (some ⟨p, 0, none⟩)] w fun e w' => e = .returned (.int .i64 (h.length : Int)) ∧ w' = w := by
  obtain ⟨hblk, hown⟩ := hL
  obtain ⟨A, c, rfl⟩ := own_form hown
  have c0 := hblk.cell 0
  clear hblk hown
  go_enter Try.func17, Try.ntmps17
  go_wp2
  go_ret
  exact ⟨rfl, rfl⟩
theorem reset_walk {w : World} {p : Nat} {v : Value} {h : List UInt8} (hL : Lk w p v h) : Calls Try.prog 13 #[.pointer (some ⟨p, 0, none⟩)] w fun e w' => e = .returned (.tuple #[]) ∧ Lk w' p (.slice none 0 0) [] ∧ Turn (only p) w w' := by
  have HL := Lib.hid hL
  have c0 := hL.blk.cell 0
  have f0 := hL.blk.frozen 0
  clear hL
  go_enter Try.func13, Try.ntmps13
  go_wp2
  go_end0
  exact ⟨rfl, ⟨HL.out.blk.set_ 0 _, Own.none_ _ _ _⟩, (Turn.refl _ w).at_ 0 _⟩
/-- what Feed tells -/
def Fed (w w' : World) (p : Nat) (v : Value) (r : Sp) (e : Ending) : Prop := ∃ fv v', e = .returned (.tuple #[fv, .int .i64 (ec r.ok)]) ∧ Lk w' p v' r.rest ∧ Frs w' (fun k => (w.heap.size ≤ k ∨ v.ownBlock = some k) ∧ ¬ foot p v' k) fv r.fs ∧ Turn (foot p v) w w' ∧ ∀ k, foot p v' k → foot p v k ∨ w.heap.size ≤ k

theorem fed_fin {w w1 w2 w3 w4 : World} {p : Nat} {v v' fv : Value} {h news : List UInt8} {A1 : Option Addr} {n1 c1 : Nat} (hL : Lk w p v h) (he : Ext w w1 v (.slice A1 n1 c1)) (ho1 : Own w1 0 5 (.slice A1 n1 c1) (h ++ news))
    (hf : Frs w2 (fun k => w1.heap.size ≤ k ∨ own_of A1 k) fv (feed (h ++ news)).fs) (ht2 : Turn nowhere w1 w2) (ht3 : Turn nowhere w2 w3) (ho : Own w3 0 5 v' (feed (h ++ news)).rest)
    (hv' : (∀ k, v'.ownBlock = some k → w2.heap.size ≤ k) ∨ (v' = .slice A1 n1 c1 ∧ (feed (h ++ news)).fs = [])) (hw4 : w4 = w3.setCell ⟨p, 0, none⟩ v') (hone : True) :
    Fed w w4 p v (feed (h ++ news)) (.returned (.tuple #[fv, .int .i64 (ec (feed (h ++ news)).ok)])) := by
  have hp1 : p < w1.heap.size := Nat.lt_of_lt_of_le hL.blk.lt he.tr.size
  have hne := hL.ne
  have hblk1 : Blk w1 p 47 #[v] := hL.blk.turn he.tr (fun e => hne e.symm)
  have ht13 : Turn nowhere w1 w3 := ht2.trans ht3 (fun _ _ e => e)
  have hblk3 := hblk1.turn ht13 (fun e => e)
  have hA1 : ∀ k, own_of A1 k → (w.heap.size ≤ k ∨ v.ownBlock = some k) ∧ k ≠ p := fun k hk => by
    have hb := own_block ho1 hk
    by_cases hlt : k < w.heap.size
    · have := (he.sub k hb.symm hlt).symm
      exact ⟨.inr this, fun e => hne (by rw [← e]; exact this)⟩
    · exact ⟨.inl (by omega), fun e => by have := hL.blk.lt; omega⟩
  have hvp : v'.ownBlock ≠ some p := fun e => row_ne ho hblk3 (by decide) e.symm
  have hsub : ∀ k, foot p v' k → foot p v k ∨ w.heap.size ≤ k := fun k hk => by
    rcases hk with rfl | hk
    · exact .inl (.inl rfl)
    · rcases hv' with h1 | ⟨rfl, _⟩
      · have h2 := h1 k hk
        have h3 := he.tr.size
        have h4 := ht2.size
        exact .inr (by omega)
      · by_cases hlt : k < w.heap.size
        · exact .inl (.inr (he.sub k hk.symm hlt).symm)
        · exact .inr (by omega)
  have hset : Turn (only p) w3 w4 := by rw [hw4]; exact (Turn.refl _ w3).at_ 0 _
  refine ⟨fv, v', rfl, ⟨?_, ho.turn hset (fun k hk e => hvp (by rw [← (show k = p from e)]; exact hk))⟩, ?_, ?_, hsub⟩
  · rw [hw4]
    exact hblk3.set_ 0 v'
  · have hf3 := hf.turn ht3 (fun _ _ e => e)
    have hnv : ∀ k, (w1.heap.size ≤ k ∨ own_of A1 k) → k < w2.heap.size → ((feed (h ++ news)).fs = [] → fv.ownBlock = some k) → ¬ foot p v' k := fun k hk hlt hfv hfoot => by
      rcases hfoot with rfl | hfoot
      · rcases hk with hk | hk
        · omega
        · exact (hA1 _ hk).2 rfl
      · rcases hv' with h1 | ⟨rfl, h0⟩
        · have := h1 k hfoot
          omega
        · obtain ⟨vals, q1, _⟩ := hf
          have hk1 := own_lt ho1 hfoot
          rcases ho1.2 with ⟨e, _⟩ | ⟨g', cap, cur', e, _, hg', _⟩
          · rw [e] at hfoot
            cases hfoot
          · rw [e] at hfoot
            have e2 : g' = k := Option.some.inj hfoot
            subst e2
            have hg2 := (ht2.block g' hk1 (fun e => e)).trans hg'
            have hq := hfv h0
            rcases q1.2 with ⟨rfl, _⟩ | ⟨g2, cap2, cur2, rfl, _, hg2', _⟩
            · cases hq
            · have e3 : g2 = g' := Option.some.inj hq
              subst e3
              rw [hg2] at hg2'
              injection hg2' with h2
              injection h2 with _ h3
              exact absurd h3 (by decide)
    obtain ⟨vals, q1, q2, q3⟩ := hf
    have keep : Frs w3 (fun k => (w.heap.size ≤ k ∨ v.ownBlock = some k) ∧ ¬ foot p v' k) fv (feed (h ++ news)).fs := by
      refine ⟨vals, ownsRow_turn q1 ht3 (fun _ _ e => e), fun k hk => ?_, fun i u hi => ?_⟩
      · have hlt := (q1.lt k hk).2
        have hG := q2 k hk
        refine ⟨?_, hnv k hG hlt fun _ => hk⟩
        rcases hG with h1 | h1
        · exact .inl (Nat.le_trans he.tr.size h1)
        · exact (hA1 k h1).1
      · obtain ⟨f, hff, hc⟩ := q3 i u hi
        have hne0 : (feed (h ++ news)).fs ≠ [] := fun e => by rw [e] at hff; cases hff
        refine ⟨f, hff, (hc.mono fun k hG hlt => ⟨?_, hnv k hG hlt fun e => absurd e hne0⟩).turn ht3 (fun _ _ e => e)⟩
        rcases hG with h1 | h1
        · exact .inl (Nat.le_trans he.tr.size h1)
        · exact (hA1 k h1).1
    refine keep.turn hset fun k hk e => hk.2 (.inl e)
  · refine ((he.tr.mono fun k _ e => .inr e.symm).trans ht13 fun _ _ e => e.elim).trans hset fun k _ e => .inl e

set_option maxRecDepth 20000 in
set_option maxHeartbeats 2000000 in
theorem feed_walk {w : World} {p : Nat} {v : Value} {h news : List UInt8} {A : Option Addr} {m c : Nat} (hL : Lk w p v h) (hb : Bs w A m news) (hc : A = none → c = 0) (hs : h.length + m ≤ 8796093022208) :
    Calls Try.prog 14 #[.pointer (some ⟨p, 0, none⟩), .slice A m c] w fun e w' => Fed w w' p v (feed (h ++ news)) e := by
  obtain ⟨A1, c1, w1, hrun, hown, hext⟩ := append_src (ty := 22) hL.own hb hc (by omega)
  have hlen : (h ++ news).length ≤ 8796093022208 := by rw [List.length_append, hb.1]; exact hs
  have hsp := split_walk hown hlen
  have hrl := rest_le (h ++ news)
  have hrw := rest_len (h ++ news)
  have c0 := hL.blk.cell 0
  have HB1 := Lib.hid (hL.blk.turn hext.tr (fun e => hL.ne e.symm))
  have HL := Lib.hid hL
  have HE := Lib.hid hext
  have HO := Lib.hid hown
  have HSP := Lib.hid hsp
  have HRUN := Lib.hid hrun
  have HRL := Lib.hid hrw
  clear hL hext hown hsp hrun hb hc hs hlen hrl hrw
  generalize h.length + m = n1 at *
  go_enter Try.func14, Try.ntmps14
  go_upto_region 1 with fail
  refine wp_region_lit ?_
  refine wpList_run (v := .pointer (some ⟨p, 0, none⟩)) rfl (exec_move rfl rfl) ?_
  simp only [Act.put, List.setIfInBounds_toArray, List.set_cons_zero, List.set_cons_succ]
  refine wpList_run (v := .pointer (some ⟨p, 0, none⟩)) rfl (exec_nil rfl rfl) ?_
  simp only [Act.put, List.setIfInBounds_toArray, List.set_cons_zero, List.set_cons_succ]
  refine wpList_run (v := .pointer (some ⟨p, 0 + 0, none⟩)) rfl (exec_field (off := 0) (d := 0) rfl rfl (by kernel_rfl)) ?_
  simp only [Act.put, List.setIfInBounds_toArray, List.set_cons_zero, List.set_cons_succ]
  refine wpList_run (v := v) rfl (lx_sl rfl rfl c0) ?_
  simp only [Act.put, List.setIfInBounds_toArray, List.set_cons_zero, List.set_cons_succ]
  refine wpList_run (v := .slice A m c) rfl (exec_move rfl rfl) ?_
  simp only [Act.put, List.setIfInBounds_toArray, List.set_cons_zero, List.set_cons_succ]
  refine wpList_run (v := .slice A1 n1 c1) (w' := w1) rfl (exec_append rfl rfl rfl HRUN.out) ?_
  simp only [Act.put, List.setIfInBounds_toArray, List.set_cons_zero, List.set_cons_succ]

  clear c0
  go_wp2_with fail
  refine HSP.out.mono ?_
  rintro e w2 ⟨fv, rv, rfl, hfr, ht2, hok, hbad⟩
  obtain ⟨fA, fc, rfl⟩ := hfr.form
  obtain ⟨n, hn⟩ : ∃ n, n = (feed (h ++ news)).fs.length := ⟨_, rfl⟩
  rw [← hn]
  have hrv : ∃ rA rn rc, rv = .slice rA rn rc ∧ Bs w2 rA rn (feed (h ++ news)).rest ∧ (rA = none → rc = 0) := by
    cases hk : (feed (h ++ news)).ok with
    | true =>
      obtain ⟨⟨rA, rn, rc, q1, q2, q3, q4, q5⟩, _⟩ := hok hk
      exact ⟨rA, rn, rc, q1, q2, q4⟩
    | false => exact ⟨none, 0, 0, hbad hk, by rw [rest_bad _ hk]; exact bs_nil _ _, fun _ => rfl⟩
  have hrv0 : n = 0 → Own w2 0 5 rv (feed (h ++ news)).rest ∧ ((∀ k, rv.ownBlock = some k → w2.heap.size ≤ k) ∨ (rv = .slice A1 n1 c1 ∧ (feed (h ++ news)).fs = [])) := fun h0 => by
    have hf0 : (feed (h ++ news)).fs = [] := List.eq_nil_of_length_eq_zero (by omega)
    cases hk : (feed (h ++ news)).ok with
    | true =>
      have h1 := (hok hk).2 hf0
      rw [h1, feed_none hk hf0]
      exact ⟨HO.out.turn ht2 (fun _ _ e => e), .inr ⟨rfl, hf0⟩⟩
    | false =>
      rw [hbad hk, rest_bad _ hk]
      exact ⟨Own.none_ _ _ _, .inl fun k hk => by cases hk⟩
  obtain ⟨rA, rn, rc, rfl, hrb, hrc⟩ := hrv
  rw [← hn] at hfr
  have HN := Lib.hid hn
  have HFR' := hfr
  rw [hn] at HFR'
  have HFR := Lib.hid hfr
  have HT2 := Lib.hid ht2
  have HR0 := Lib.hid hrv0
  have HRB := Lib.hid hrb
  have HRC := Lib.hid hrc
  have HB2 := Lib.hid (HB1.out.turn ht2 (fun e => e))
  clear hn hfr ht2 hrv0 hrb hrc hok hbad HFR' HSP HRUN
  go_upto_region 2 with fail
  by_cases h0 : n = 0
  · have y1 : ¬ ((0 : Int) < (n : Int)) := by omega
    obtain ⟨ho, hv'⟩ := HR0.out h0
    have HO3 := Lib.hid ho
    have HV := Lib.hid hv'
    have HB3 := HB2
    have HT3 := Lib.hid (Turn.refl nowhere w2)
    clear ho hv' h0
    go_upto_region 4 with fail
    refine wp_region_lit ?_
    refine wpList_run (v := .pointer (some ⟨p, 0, none⟩)) rfl (exec_move rfl rfl) ?_
    simp only [Act.put, List.setIfInBounds_toArray, List.set_cons_zero, List.set_cons_succ]
    refine wpList_run (v := .slice rA rn rc) rfl (exec_move rfl rfl) ?_
    simp only [Act.put, List.setIfInBounds_toArray, List.set_cons_zero, List.set_cons_succ]
    refine wpList_run (v := .pointer (some ⟨p, 0, none⟩)) rfl (exec_nil rfl rfl) ?_
    simp only [Act.put, List.setIfInBounds_toArray, List.set_cons_zero, List.set_cons_succ]
    refine wpList_run (v := .pointer (some ⟨p, 0 + 0, none⟩)) rfl (exec_field (off := 0) (d := 0) rfl rfl (by kernel_rfl)) ?_
    simp only [Act.put, List.setIfInBounds_toArray, List.set_cons_zero, List.set_cons_succ]
    refine wpList_store1 rfl 22 (.tmp 28) (.tmp 26) rfl HB3.out rfl rfl (by simp) (by rfl) (by rfl) (by kernel_rfl) ?_
    intro hb4 ht4
    simp only [Act.put, List.setIfInBounds_toArray, List.set_cons_zero, List.set_cons_succ]
    clear hb4 ht4
    generalize hw4 : World.setCell _ ⟨p, 0, none⟩ _ = w4
    go_wp2_with fail
    go_ret2
    exact fed_fin HL.out HE.out HO.out HFR.out HT2.out HT3.out HO3.out HV.out hw4.symm trivial

  · have y1 : (0 : Int) < (n : Int) := by omega
    obtain ⟨A3, c3, w3, hrun3, hown3, hext3⟩ := append_src (ty := 22) (Own.none_ w2 0 5) HRB.out HRC.out (by have := HRB.out.1; have := HRL.out; simp; omega)
    have hl3 : ([] : List UInt8).length + rn = rn := by simp
    rw [hl3] at hrun3 hown3 hext3
    rw [List.nil_append] at hown3
    have ht3 : Turn nowhere w2 w3 := hext3.tr.mono fun k _ e => by cases e
    have HO3 := Lib.hid hown3
    have HT3 := Lib.hid ht3
    have HB3 := Lib.hid (HB2.out.turn ht3 (fun e => e))
    have HV := Lib.hid (show ∀ k, (Value.slice A3 rn c3).ownBlock = some k → w2.heap.size ≤ k from fun k hk => by
      by_cases hlt : k < w2.heap.size
      · have := hext3.sub k hk.symm hlt
        cases this
      · omega)
    have HRUN := Lib.hid hrun3
    clear hrun3 hown3 hext3 ht3 hl3 h0
    go_upto_region 3 with fail
    refine wp_region_lit ?_
    refine wpList_run (v := .slice rA rn rc) rfl (exec_move rfl rfl) ?_
    simp only [Act.put, List.setIfInBounds_toArray, List.set_cons_zero, List.set_cons_succ]
    refine wpList_run (v := .slice A3 rn c3) (w' := w3) rfl (exec_append rfl rfl rfl HRUN.out) ?_
    simp only [Act.put, List.setIfInBounds_toArray, List.set_cons_zero, List.set_cons_succ]

    go_upto_region 4 with fail
    refine wp_region_lit ?_
    refine wpList_run (v := .pointer (some ⟨p, 0, none⟩)) rfl (exec_move rfl rfl) ?_
    simp only [Act.put, List.setIfInBounds_toArray, List.set_cons_zero, List.set_cons_succ]
    refine wpList_run (v := .slice A3 rn c3) rfl (exec_move rfl rfl) ?_
    simp only [Act.put, List.setIfInBounds_toArray, List.set_cons_zero, List.set_cons_succ]
    refine wpList_run (v := .pointer (some ⟨p, 0, none⟩)) rfl (exec_nil rfl rfl) ?_
    simp only [Act.put, List.setIfInBounds_toArray, List.set_cons_zero, List.set_cons_succ]
    refine wpList_run (v := .pointer (some ⟨p, 0 + 0, none⟩)) rfl (exec_field (off := 0) (d := 0) rfl rfl (by kernel_rfl)) ?_
    simp only [Act.put, List.setIfInBounds_toArray, List.set_cons_zero, List.set_cons_succ]
    refine wpList_store1 rfl 22 (.tmp 28) (.tmp 26) rfl HB3.out rfl rfl (by simp) (by rfl) (by rfl) (by kernel_rfl) ?_
    intro hb4 ht4
    simp only [Act.put, List.setIfInBounds_toArray, List.set_cons_zero, List.set_cons_succ]
    clear hb4 ht4
    generalize hw4 : World.setCell _ ⟨p, 0, none⟩ _ = w4
    go_wp2_with fail
    go_ret2
    exact fed_fin HL.out HE.out HO.out HFR.out HT2.out HT3.out HO3.out (.inl HV.out) hw4.symm trivial

end Go.Proofs.Ytagoijgmoaffdaa
