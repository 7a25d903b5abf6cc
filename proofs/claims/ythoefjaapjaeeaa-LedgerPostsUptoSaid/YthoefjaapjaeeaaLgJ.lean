/-
  Entries turned, the code and the reference; same: the walks. No conditions.
-/
import Derived.Test.YthoefjaapjaeeaaLgI
namespace Go.Proofs.Ythoefjaapjaeeaa
open Go.RowKit
open Lg (Ent)
set_option linter.unusedVariables false
set_option linter.unusedSimpArgs false
theorem EntAt.rngw {w : World} {b off n : Nat} {es : List Ent} (h : EntAt w (some ⟨b, off, none⟩) n es) {i : Nat} {e : Ent} (he : es[i]? = some e) : w.rangeAt b (off + i * 2) (entC e) := by
  obtain ⟨b', off', hA, hc⟩ := h.rng he
  obtain ⟨rfl, rfl⟩ := addr_of rfl hA
  exact hc
/-- how far it is: the first i turned, the others nought -/
structure TurR (es R : List Ent) (i : Nat) : Prop where
  len : R.length = es.length
  le : i ≤ es.length
  done : R.take i = Lg.turnL (es.take i)
  ok : ∀ e ∈ es.take i, e.2 ≠ -9223372036854775808
theorem TurR.start (es : List Ent) : TurR es (List.replicate es.length (0, 0)) 0 := ⟨by simp, Nat.zero_le _, rfl, fun e he => by rw [List.take_zero] at he; cases he⟩
theorem TurR.step {es R : List Ent} {i : Nat} {e : Ent} (h : TurR es R i) (he : es[i]? = some e) (hz : e.2 ≠ -9223372036854775808) : TurR es (R.set i (e.1, -e.2)) (i + 1) := by
  have hi := (List.getElem?_eq_some_iff.1 he).1
  refine ⟨by rw [List.length_set]; exact h.len, hi, ?_, fun x hx => ?_⟩
  · rw [List.take_add_one, List.take_set_of_le (Nat.le_refl i), List.getElem?_set_self (by rw [h.len]; omega), h.done, Lg.take_snoc he]
    simp [Lg.turnL]
  · rw [Lg.take_snoc he] at hx
    rcases List.mem_append.1 hx with hx | hx
    · exact h.ok x hx
    · obtain rfl : x = e := by simpa using hx
      exact hz
theorem turnE_bad {es : List Ent} {i : Nat} {e : Ent} (he : es[i]? = some e) (hz : e.2 = -9223372036854775808) : Lg.turnE es = 100 := by
  unfold Lg.turnE
  rw [if_pos]
  exact List.any_eq_true.2 ⟨e, List.mem_of_getElem? he, by simpa using hz⟩
theorem turnE_ok {es : List Ent} (h : ∀ e ∈ es, e.2 ≠ -9223372036854775808) : Lg.turnE es = 0 := by
  unfold Lg.turnE
  rw [if_neg]
  intro h2
  obtain ⟨e, he, hz⟩ := List.any_eq_true.1 h2
  exact h e he (by simpa using hz)
def turnR (es : List Ent) : List Ent := if Lg.turnE es = 0 then Lg.turnL es else []
/-- what Turned tells -/
def TurnP (w : World) (es : List Ent) (e : Ending) (w' : World) : Prop :=
  ∃ v, e = .returned (.tuple #[v, .int .i64 (Lg.turnE es)]) ∧ Orw w' w.heap.size 57 2 v ((turnR es).map entC) ∧ Turn nowhere w w'
theorem TurnP.bad {w w' : World} {es : List Ent} (h : Lg.turnE es = 100) (ht : Turn nowhere w w') : TurnP w es (.returned (.tuple #[.slice none 0 0, .int .i64 100])) w' := by
  refine ⟨_, by rw [h], ?_, ht⟩
  unfold turnR
  rw [if_neg (by rw [h]; decide)]
  exact Orw.nil _ _ _ _
theorem TurnP.good {w w' : World} {es R : List Ent} {v : Value} {i : Nat} (hR : TurR es R i) (hi : i = es.length) (hv : Orw w' w.heap.size 57 2 v (R.map entC)) (ht : Turn nowhere w w') : TurnP w es (.returned (.tuple #[v, .int .i64 0])) w' := by
  subst hi
  have h0 : Lg.turnE es = 0 := turnE_ok fun e he => hR.ok e (by rw [List.take_length]; exact he)
  have hr : R = Lg.turnL es := by
    have := hR.done
    rwa [List.take_length, List.take_of_length_le (by rw [hR.len]; exact Nat.le_refl _)] at this
  subst hr
  refine ⟨v, by rw [h0], ?_, ht⟩
  unfold turnR
  rw [if_pos h0]
  exact hv
theorem sub_neg {n : Int} (h : Mn.in64 n) (g : n ≠ -9223372036854775808) : Mn.subV 0 n = -n ∧ Mn.subE 0 n = 0 := by
  have : Mn.in64 (0 - n) := by unfold Mn.in64 at *; omega
  exact ⟨(if_pos this).trans (by omega), if_pos this⟩
theorem sub_least {n : Int} (g : n = -9223372036854775808) : Mn.subE 0 n = 100 := by
  have : ¬ Mn.in64 (0 - n) := by unfold Mn.in64 at *; omega
  exact if_neg this
theorem neg_in {e : Ent} (h : Mn.in64 e.1 ∧ Mn.in64 e.2) (g : e.2 ≠ -9223372036854775808) : Mn.in64 (e.1, -e.2).1 ∧ Mn.in64 (e.1, -e.2).2 := ⟨h.1, by have := h.2; unfold Mn.in64 at *; dsimp only; omega⟩
theorem mk_rep (n : Nat) : (List.replicate n ((.agg #[.int .i64 0, .int .i64 0] : Value).cells.toList)) = (List.replicate n ((0, 0) : Ent)).map entC := by rw [List.map_replicate]; rfl
theorem one_z : ∀ u ∈ ((.agg #[.int .i64 0, .int .i64 0] : Value)).cells.toList, u.oneCell' = true := entC_one (0, 0)
set_option maxRecDepth 20000 in
set_option maxHeartbeats 4000000 in
theorem Turned_walk {w : World} {A : Option Addr} {n c : Nat} {es : List Ent} (h : EntAt w A n es) (hn : n ≤ 8796093022208) : Calls Try.prog 18 #[.slice A n c] w fun e w' => TurnP w es e w' := by
  have HE := Lib.hid h
  have HLEN := Lib.hid h.len
  have ym : (n : Int) ≤ 8796093022208 := by omega
  obtain ⟨w1, hrun, ho, ht⟩ := orw_make elmE one_z n (by omega) w
  rw [mk_rep] at ho
  have HRUN := Lib.hid hrun
  obtain ⟨g, hg⟩ : ∃ g, g = w.heap.size := ⟨_, rfl⟩
  rw [← hg] at ho
  have HO := Lib.hid ho
  have HT1 := Lib.hid ht
  have HGG := Lib.hid hg
  clear h hn hrun ho ht hg
  go_enter Try.func18, Try.ntmps18
  go_upto_region 0 with fail
  refine wp_region_lit ?_
  refine wpList_run (v := .slice none 0 0) (wanted_none rfl) (gx_assign rfl rfl) ?_
  simp only [Act.put, List.setIfInBounds_toArray, List.set_cons_zero, List.set_cons_succ]
  refine wpList_run (v := .int .i64 0) (wanted_none rfl) (gx_assign rfl rfl) ?_
  simp only [Act.put, List.setIfInBounds_toArray, List.set_cons_zero, List.set_cons_succ]
  go_upto_region 1 with fail
  refine wp_region_lit ?_
  refine wpList_run (v := .slice A n c) (wanted_none rfl) (exec_move rfl rfl) ?_
  simp only [Act.put, List.setIfInBounds_toArray, List.set_cons_zero, List.set_cons_succ]
  refine wpList_run (v := .int .i64 (n : Int)) (wanted_none rfl) (gx_len rfl rfl Try.underlying35) ?_
  simp only [Act.put, List.setIfInBounds_toArray, List.set_cons_zero, List.set_cons_succ]
  refine wpList_run (v := .slice (some ⟨g, 0, none⟩) n n) (w' := w1) (wanted_none rfl) (gx_make rfl rfl rfl (by rw [HGG.out]; exact HRUN.out)) ?_
  simp only [Act.put, List.setIfInBounds_toArray, List.set_cons_zero, List.set_cons_succ]
  refine wpList_run (v := .slice (some ⟨g, 0, none⟩) n n) (wanted_none rfl) (gx_assign rfl rfl) ?_
  simp only [Act.put, List.setIfInBounds_toArray, List.set_cons_zero, List.set_cons_succ]
  go_upto_region 2 with fail
  refine wp_region_lit ?_
  refine wpList_run (v := .slice A n c) (wanted_none rfl) (exec_move rfl rfl) ?_
  simp only [Act.put, List.setIfInBounds_toArray, List.set_cons_zero, List.set_cons_succ]
  refine wpList_run (v := .int .i64 (n : Int)) (wanted_none rfl) (gx_len rfl rfl Try.underlying35) ?_
  simp only [Act.put, List.setIfInBounds_toArray, List.set_cons_zero, List.set_cons_succ]
  refine wpList_run (v := .int .i64 0) (wanted_none rfl) (exec_move rfl rfl) ?_
  simp only [Act.put, List.setIfInBounds_toArray, List.set_cons_zero, List.set_cons_succ]
  go_wp2_with fail
  go_loopg [14] n (fun gk iv wr => ∃ (i : Nat) (R : List Ent), iv = .int .i64 (i : Int) ∧ i + gk = n ∧ TurR es R i ∧ Orw wr g 57 2 (.slice (some ⟨g, 0, none⟩) n n) (R.map entC) ∧ Turn nowhere w wr)
  case atStart => exact ⟨0, List.replicate n (0, 0), rfl, by omega, by rw [HLEN.out]; exact TurR.start es, HO.out, HT1.out⟩
  obtain ⟨i, R, rfl, hgk, htu, hor, htr⟩ := hrel
  have HGK := Lib.hid hgk
  have HTU := Lib.hid htu
  have HOR := Lib.hid hor
  have HTR := Lib.hid htr
  have yi : (i : Int) ≤ (n : Int) := by omega
  clear hgk htu hor htr
  by_cases hlt : i < n
  · have HLT := Lib.hid hlt
    have y3 : (i : Int) < (n : Int) := by omega
    obtain ⟨e, hei⟩ := ent_some HLEN.out hlt
    have HEI := Lib.hid hei
    have HEW := Lib.hid (HE.out.wf e (List.mem_of_getElem? hei))
    obtain ⟨b1, o1, e1, h1⟩ := (HE.out.still HTR.out).rng hei
    have HRR := Lib.hid h1
    subst e1
    clear h1 hei hlt
    go_upto_region 3 with fail
    refine wp_region_lit ?_
    refine wpList_run (v := .bool true) (wanted_none rfl) (ix_lss rfl rfl rfl (decide_eq_true y3)) ?_
    simp only [Act.put, List.setIfInBounds_toArray, List.set_cons_zero, List.set_cons_succ]
    go_upto_region 4 with fail
    refine wp_region_lit ?_
    refine wpList_run (v := .int .i64 (i : Int)) (wanted_none rfl) (exec_move rfl rfl) ?_
    simp only [Act.put, List.setIfInBounds_toArray, List.set_cons_zero, List.set_cons_succ]
    refine wpList_run (v := .pointer (some ⟨b1, o1 + i * 2, none⟩)) (wanted_none rfl) (gx_iaddr (i := i) (sz := 2) rfl rfl rfl Try.underlying35 size_ent HLT.out rfl) ?_
    simp only [Act.put, List.setIfInBounds_toArray, List.set_cons_zero, List.set_cons_succ]
    refine wpList_run (v := .agg (entA e)) (wanted_none rfl) (gx_loads rfl rfl HRR.out Try.underlying57 rfl (by rw [size_ent]; rfl)) ?_
    simp only [Act.put, List.setIfInBounds_toArray, List.set_cons_zero, List.set_cons_succ]
    refine wpList_run (v := .pointer (some ⟨wr.heap.size, 0, none⟩)) (w' := wr.alloc (.cells (entA (0, 0)) 57)) (wanted_none rfl) (gx_alloc rfl (zero_ent _)) ?_
    simp only [Act.put, List.setIfInBounds_toArray, List.set_cons_zero, List.set_cons_succ]
    have hb_ := Blk.new wr 57 (entA (0, 0))
    have ht_ := (Turn.refl nowhere wr).alloc (.cells (entA (0, 0)) 57)
    obtain ⟨x, hg_⟩ : ∃ g, g = wr.heap.size := ⟨_, rfl⟩
    rw [← hg_] at hb_ ⊢
    have HLx := Lib.hid (show wr.heap.size ≤ x from by omega)
    clear hg_
    generalize wr.alloc (.cells (entA (0, 0)) 57) = w5 at *
    have HBx := Lib.hid hb_
    have HT5 := Lib.hid ht_
    clear hb_ ht_
    refine wpList_run (v := .int .i64 (i : Int)) (wanted_none rfl) (gx_assign rfl rfl) ?_
    simp only [Act.put, List.setIfInBounds_toArray, List.set_cons_zero, List.set_cons_succ]
    refine wpList_store_row (wanted_none rfl) 57 (.tmp 6) (.tmp 18) rfl (entA e) HBx.out rfl rfl (rfl) (by rw [size_ent] <;> rfl) (entA_one _) ?_
    intro w6 hb_ ht_
    have HBx6 := Lib.hid hb_
    have HT6 := Lib.hid ht_
    clear hb_ ht_
    simp only [Act.put, List.setIfInBounds_toArray, List.set_cons_zero, List.set_cons_succ]
    have HT56 := Lib.hid (HT5.out.trans HT6.out fun k hk e => by have := HLx.out; have e : k = x := e; omega)
    have HT6w := Lib.hid (HTR.out.trans HT56.out fun _ _ e => e)
    have HOR6 := Lib.hid (HOR.out.still HT56.out)
    clear HBx HT5 HT6 HT56 HRR
    go_upto_region 5 with fail
    refine wp_region_lit ?_
    refine wpList_run (v := .pointer (some ⟨x, 1, none⟩)) (wanted_none rfl) (exec_field (off := 0) (d := 1) rfl rfl (by kernel_rfl)) ?_
    simp only [Act.put, List.setIfInBounds_toArray, List.set_cons_zero, List.set_cons_succ]
    refine wpList_run (v := .int .i64 e.2) (wanted_none rfl) (exec_load1 rfl rfl (by kernel_rfl) (HBx6.out.cell 1)) ?_
    simp only [Act.put, List.setIfInBounds_toArray, List.set_cons_zero, List.set_cons_succ]
    refine wpList_op rfl fun K9 HK9 => ?_
    go_wp2_with fail
    refine (sub_walk 0 e.2 w6 (by decide) HEW.out.2).mono ?_
    rintro e w6 ⟨rfl, rfl⟩
    refine HK9.out _ _ ?_
    clear HK9
    try simp only [Act.put, List.setIfInBounds_toArray, List.set_cons_zero, List.set_cons_succ]
    refine wpList_run (v := .tuple #[.int .i64 (Mn.subV 0 e.2), .int .i64 (Mn.subE 0 e.2)]) (wanted_none rfl) (exec_move rfl rfl) ?_
    simp only [Act.put, List.setIfInBounds_toArray, List.set_cons_zero, List.set_cons_succ]
    refine wpList_run (v := .int .i64 (Mn.subV 0 e.2)) (wanted_none rfl) (ix_extract rfl rfl rfl) ?_
    simp only [Act.put, List.setIfInBounds_toArray, List.set_cons_zero, List.set_cons_succ]
    refine wpList_run (v := .int .i64 (Mn.subE 0 e.2)) (wanted_none rfl) (ix_extract rfl rfl rfl) ?_
    simp only [Act.put, List.setIfInBounds_toArray, List.set_cons_zero, List.set_cons_succ]
    refine wpList_run (v := .int .i64 (Mn.subV 0 e.2)) (wanted_none rfl) (gx_assign rfl rfl) ?_
    simp only [Act.put, List.setIfInBounds_toArray, List.set_cons_zero, List.set_cons_succ]
    refine wpList_run (v := .int .i64 (Mn.subE 0 e.2)) (wanted_none rfl) (gx_assign rfl rfl) ?_
    simp only [Act.put, List.setIfInBounds_toArray, List.set_cons_zero, List.set_cons_succ]
    by_cases hz : e.2 = -9223372036854775808
    · have HTE := Lib.hid (turnE_bad HEI.out hz)
      have HSE := Lib.hid (sub_least hz)
      clear hz
      go_upto_region 6 with fail
      refine wp_region_lit ?_
      refine wpList_run (v := .int .i64 (Mn.subE 0 e.2)) (wanted_none rfl) (exec_move rfl rfl) ?_
      simp only [Act.put, List.setIfInBounds_toArray, List.set_cons_zero, List.set_cons_succ]
      refine wpList_run (v := .bool true) (wanted_none rfl) (ix_neq rfl rfl rfl (by rw [HSE.out]; rfl)) ?_
      simp only [Act.put, List.setIfInBounds_toArray, List.set_cons_zero, List.set_cons_succ]
      go_upto_region 7 with fail
      refine wp_region_lit ?_
      refine wpList_run (v := .int .i64 (Mn.subE 0 e.2)) (wanted_none rfl) (exec_move rfl rfl) ?_
      simp only [Act.put, List.setIfInBounds_toArray, List.set_cons_zero, List.set_cons_succ]
      refine wpList_run (v := .slice none 0 0) (wanted_none rfl) (gx_assign rfl rfl) ?_
      simp only [Act.put, List.setIfInBounds_toArray, List.set_cons_zero, List.set_cons_succ]
      refine wpList_run (v := .int .i64 (Mn.subE 0 e.2)) (wanted_none rfl) (gx_assign rfl rfl) ?_
      simp only [Act.put, List.setIfInBounds_toArray, List.set_cons_zero, List.set_cons_succ]
      go_wp2_with fail
      go_ret2
      rw [HSE.out]
      exact TurnP.bad HTE.out HT6w.out
    · have HZ := Lib.hid hz
      have HSE := Lib.hid (sub_neg HEW.out.2 hz)
      clear hz
      go_upto_region 6 with fail
      refine wp_region_lit ?_
      refine wpList_run (v := .int .i64 (Mn.subE 0 e.2)) (wanted_none rfl) (exec_move rfl rfl) ?_
      simp only [Act.put, List.setIfInBounds_toArray, List.set_cons_zero, List.set_cons_succ]
      refine wpList_run (v := .bool false) (wanted_none rfl) (ix_neq rfl rfl rfl (by rw [HSE.out.2]; rfl)) ?_
      simp only [Act.put, List.setIfInBounds_toArray, List.set_cons_zero, List.set_cons_succ]
      go_upto_region 8 with fail
      refine wp_region_lit ?_
      refine wpList_run (v := .slice (some ⟨g, 0, none⟩) n n) (wanted_none rfl) (exec_move rfl rfl) ?_
      simp only [Act.put, List.setIfInBounds_toArray, List.set_cons_zero, List.set_cons_succ]
      refine wpList_run (v := .int .i64 (i : Int)) (wanted_none rfl) (exec_move rfl rfl) ?_
      simp only [Act.put, List.setIfInBounds_toArray, List.set_cons_zero, List.set_cons_succ]
      refine wpList_run (v := .pointer (some ⟨x, 0, none⟩)) (wanted_none rfl) (exec_field (off := 0) (d := 0) rfl rfl (by kernel_rfl)) ?_
      simp only [Act.put, List.setIfInBounds_toArray, List.set_cons_zero, List.set_cons_succ]
      refine wpList_run (v := .int .i64 e.1) (wanted_none rfl) (exec_load1 rfl rfl (by kernel_rfl) (HBx6.out.cell 0)) ?_
      simp only [Act.put, List.setIfInBounds_toArray, List.set_cons_zero, List.set_cons_succ]
      refine wpList_run (v := .int .i64 (Mn.subV 0 e.2)) (wanted_none rfl) (exec_move rfl rfl) ?_
      simp only [Act.put, List.setIfInBounds_toArray, List.set_cons_zero, List.set_cons_succ]
      refine wpList_run (v := .agg (entA (e.1, -e.2))) (wanted_none rfl) (gx_build2 rfl rfl rfl (by rw [HSE.out.1]; exact build_ent _ _ _)) ?_
      simp only [Act.put, List.setIfInBounds_toArray, List.set_cons_zero, List.set_cons_succ]
      refine wpList_run (v := .pointer (some ⟨g, i * 2, none⟩)) (wanted_none rfl) (gx_iaddr (i := i) (sz := 2) rfl rfl rfl Try.underlying35 size_ent HLT.out (by omega)) ?_
      simp only [Act.put, List.setIfInBounds_toArray, List.set_cons_zero, List.set_cons_succ]
      obtain ⟨cur, hcur⟩ := HOR6.out.own_blk rfl
      obtain ⟨cur0, hc0, hc1, _⟩ := orw_block HOR6.out
      obtain rfl := hc0.inj hcur
      refine wpList_store_mid rfl 57 (.tmp 34) (.tmp 33) rfl (entA (e.1, -e.2)) hcur rfl rfl (by rw [hc1]; have := HLT.out; show i * 2 + 2 ≤ n * 2; omega) (by rw [size_ent]; rfl) (entA_one _) ?_
      intro w8 C8 hb8 hs8 hc8 ht8
      have ho8 := orw_set HOR6.out hcur hb8 hs8 HLT.out (r := entC (e.1, -e.2)) rfl (entC_one _) (fun q => by rw [hc8, ent_at]; rfl) (by decide)
      rw [map_set'] at ho8
      have HO8 := Lib.hid ho8
      have HT8 := Lib.hid (HT6w.out.trans ht8 fun k hk e => by have := HGG.out; have e : k = g := e; omega)
      clear hcur hc0 hc1 hb8 hs8 hc8 ht8 ho8
      simp only [Act.put, List.setIfInBounds_toArray, List.set_cons_zero, List.set_cons_succ]
      go_upto_region 9 with fail
      refine wp_region_lit ?_
      refine wpList_run (v := .int .i64 ((i + 1 : Nat) : Int)) (wanted_none rfl) (ix_add rfl rfl rfl (by omega) (by omega)) ?_
      simp only [Act.put, List.setIfInBounds_toArray, List.set_cons_zero, List.set_cons_succ]
      refine wpList_run (v := .int .i64 ((i + 1 : Nat) : Int)) (wanted_none rfl) (exec_move rfl rfl) ?_
      simp only [Act.put, List.setIfInBounds_toArray, List.set_cons_zero, List.set_cons_succ]
      go_wp2_with fail
      go_roundg (n - (i + 1))
      case measure => have := HGK.out; have := HLT.out; omega
      case rel => exact ⟨i + 1, R.set i (e.1, -e.2), rfl, by have := HLT.out; omega, HTU.out.step HEI.out HZ.out, HO8.out, HT8.out⟩
  · have HIN := Lib.hid (show i = es.length from by rw [← HLEN.out]; omega)
    clear hlt
    go_upto_region 3 with fail
    refine wp_region_lit ?_
    refine wpList_run (v := .bool false) (wanted_none rfl) (ix_lss rfl rfl rfl (decide_eq_false (by have := HLEN.out; have := HIN.out; omega))) ?_
    simp only [Act.put, List.setIfInBounds_toArray, List.set_cons_zero, List.set_cons_succ]
    go_upto_region 10 with fail
    refine wp_region_lit ?_
    refine wpList_run (v := .slice (some ⟨g, 0, none⟩) n n) (wanted_none rfl) (exec_move rfl rfl) ?_
    simp only [Act.put, List.setIfInBounds_toArray, List.set_cons_zero, List.set_cons_succ]
    refine wpList_run (v := .slice (some ⟨g, 0, none⟩) n n) (wanted_none rfl) (gx_assign rfl rfl) ?_
    simp only [Act.put, List.setIfInBounds_toArray, List.set_cons_zero, List.set_cons_succ]
    refine wpList_run (v := .int .i64 0) (wanted_none rfl) (gx_assign rfl rfl) ?_
    simp only [Act.put, List.setIfInBounds_toArray, List.set_cons_zero, List.set_cons_succ]
    go_wp2_with fail
    go_ret2
    exact TurnP.good HTU.out HIN.out (by rw [← HGG.out]; exact HOR.out) HTR.out
theorem turnL_snoc {es : List Ent} {i : Nat} {e : Ent} (h : es[i]? = some e) : Lg.turnL (es.take (i + 1)) = Lg.turnL (es.take i) ++ [(e.1, -e.2)] := by
  rw [Lg.take_snoc h]; simp [Lg.turnL]
set_option maxRecDepth 20000 in
set_option maxHeartbeats 4000000 in
theorem rTurned_walk {w : World} {A : Option Addr} {n c : Nat} {es : List Ent} (h : EntAt w A n es) (hn : n ≤ 8796093022208) : Calls Try.prog 19 #[.slice A n c] w fun e w' => TurnP w es e w' := by
  have HE := Lib.hid h
  have HLEN := Lib.hid h.len
  have HN := Lib.hid hn
  have ym : (n : Int) ≤ 8796093022208 := by omega
  clear h hn
  go_enter Try.func19, Try.ntmps19
  go_upto_region 0 with fail
  refine wp_region_lit ?_
  refine wpList_run (v := .slice none 0 0) (wanted_none rfl) (gx_assign rfl rfl) ?_
  simp only [Act.put, List.setIfInBounds_toArray, List.set_cons_zero, List.set_cons_succ]
  refine wpList_run (v := .int .i64 0) (wanted_none rfl) (gx_assign rfl rfl) ?_
  simp only [Act.put, List.setIfInBounds_toArray, List.set_cons_zero, List.set_cons_succ]
  go_upto_region 1 with fail
  refine wp_region_lit ?_
  refine wpList_run (v := .slice none 0 0) (wanted_none rfl) (gx_assign rfl rfl) ?_
  simp only [Act.put, List.setIfInBounds_toArray, List.set_cons_zero, List.set_cons_succ]
  go_upto_region 2 with fail
  refine wp_region_lit ?_
  refine wpList_run (v := .int .i64 0) (wanted_none rfl) (gx_assign rfl rfl) ?_
  simp only [Act.put, List.setIfInBounds_toArray, List.set_cons_zero, List.set_cons_succ]
  go_wp2_with fail
  go_loopg [4, 5] n (fun gk ov iv wr => ∃ (i : Nat), iv = .int .i64 (i : Int) ∧ i + gk = n ∧ (∀ e ∈ es.take i, e.2 ≠ -9223372036854775808) ∧ Orw wr w.heap.size 57 2 ov ((Lg.turnL (es.take i)).map entC) ∧ Turn nowhere w wr)
  case atStart => exact ⟨0, rfl, by omega, (fun e he => by rw [List.take_zero] at he; cases he), Orw.nil _ _ _ _, Turn.refl _ _⟩
  obtain ⟨i, rfl, hgk, hok, hor, htr⟩ := hrel
  have HGK := Lib.hid hgk
  have HOK := Lib.hid hok
  have HOR := Lib.hid hor
  have HTR := Lib.hid htr
  have yi : (i : Int) ≤ (n : Int) := by omega
  obtain ⟨A5, c5, rfl, _⟩ := hor.form
  clear hgk hok hor htr
  obtain ⟨m5, hm5⟩ : ∃ x, x = ((Lg.turnL (es.take i)).map entC).length := ⟨_, rfl⟩
  rw [← hm5] at HOR ⊢
  have HM5 := Lib.hid hm5
  clear hm5
  by_cases hlt : i < n
  · have HLT := Lib.hid hlt
    have y3 : (i : Int) < (n : Int) := by omega
    obtain ⟨e, hei⟩ := ent_some HLEN.out hlt
    have HEI := Lib.hid hei
    have HEW := Lib.hid (HE.out.wf e (List.mem_of_getElem? hei))
    obtain ⟨b1, o1, e1, h1⟩ := (HE.out.still HTR.out).rng hei
    have HRR := Lib.hid h1
    subst e1
    clear h1 hei hlt
    have HC0 := Lib.hid (HRR.out 0 _ rfl)
    have HC1 := Lib.hid (HRR.out 1 _ rfl)
    go_upto_region 3 with fail
    refine wp_region_lit ?_
    refine wpList_run (v := .int .i64 (i : Int)) (wanted_none rfl) (exec_move rfl rfl) ?_
    simp only [Act.put, List.setIfInBounds_toArray, List.set_cons_zero, List.set_cons_succ]
    refine wpList_run (v := .slice (some ⟨b1, o1, none⟩) n c) (wanted_none rfl) (exec_move rfl rfl) ?_
    simp only [Act.put, List.setIfInBounds_toArray, List.set_cons_zero, List.set_cons_succ]
    refine wpList_run (v := .int .i64 (n : Int)) (wanted_none rfl) (gx_len rfl rfl Try.underlying35) ?_
    simp only [Act.put, List.setIfInBounds_toArray, List.set_cons_zero, List.set_cons_succ]
    refine wpList_run (v := .bool true) (wanted_none rfl) (ix_lss rfl rfl rfl (decide_eq_true y3)) ?_
    simp only [Act.put, List.setIfInBounds_toArray, List.set_cons_zero, List.set_cons_succ]
    by_cases hz : e.2 = -9223372036854775808
    · have HTE := Lib.hid (turnE_bad HEI.out hz)
      have HZ := Lib.hid hz
      clear hz
      go_upto_region 5 with fail
      refine wp_region_lit ?_
      refine wpList_run (v := .slice (some ⟨b1, o1, none⟩) n c) (wanted_none rfl) (exec_move rfl rfl) ?_
      simp only [Act.put, List.setIfInBounds_toArray, List.set_cons_zero, List.set_cons_succ]
      refine wpList_run (v := .int .i64 (i : Int)) (wanted_none rfl) (exec_move rfl rfl) ?_
      simp only [Act.put, List.setIfInBounds_toArray, List.set_cons_zero, List.set_cons_succ]
      refine wpList_run (v := .pointer (some ⟨b1, o1 + i * 2, none⟩)) (wanted_none rfl) (gx_iaddr (i := i) (sz := 2) rfl rfl rfl Try.underlying35 size_ent HLT.out rfl) ?_
      simp only [Act.put, List.setIfInBounds_toArray, List.set_cons_zero, List.set_cons_succ]
      refine wpList_run (v := .pointer (some ⟨b1, o1 + i * 2 + 1, none⟩)) (wanted_none rfl) (exec_field (off := o1 + i * 2) (d := 1) rfl rfl (by kernel_rfl)) ?_
      simp only [Act.put, List.setIfInBounds_toArray, List.set_cons_zero, List.set_cons_succ]
      refine wpList_run (v := .int .i64 e.2) (wanted_none rfl) (exec_load1 rfl rfl (by kernel_rfl) HC1.out) ?_
      simp only [Act.put, List.setIfInBounds_toArray, List.set_cons_zero, List.set_cons_succ]
      refine wpList_run (v := .bool true) (wanted_none rfl) (ix_eql rfl rfl rfl (decide_eq_true HZ.out)) ?_
      simp only [Act.put, List.setIfInBounds_toArray, List.set_cons_zero, List.set_cons_succ]
      go_upto_region 6 with fail
      refine wp_region_lit ?_
      refine wpList_run (v := .slice none 0 0) (wanted_none rfl) (gx_assign rfl rfl) ?_
      simp only [Act.put, List.setIfInBounds_toArray, List.set_cons_zero, List.set_cons_succ]
      refine wpList_run (v := .int .i64 100) (wanted_none rfl) (gx_assign rfl rfl) ?_
      simp only [Act.put, List.setIfInBounds_toArray, List.set_cons_zero, List.set_cons_succ]
      go_wp2_with fail
      go_ret2
      exact TurnP.bad HTE.out HTR.out
    · have HZ := Lib.hid hz
      clear hz
      go_upto_region 5 with fail
      refine wp_region_lit ?_
      refine wpList_run (v := .slice (some ⟨b1, o1, none⟩) n c) (wanted_none rfl) (exec_move rfl rfl) ?_
      simp only [Act.put, List.setIfInBounds_toArray, List.set_cons_zero, List.set_cons_succ]
      refine wpList_run (v := .int .i64 (i : Int)) (wanted_none rfl) (exec_move rfl rfl) ?_
      simp only [Act.put, List.setIfInBounds_toArray, List.set_cons_zero, List.set_cons_succ]
      refine wpList_run (v := .pointer (some ⟨b1, o1 + i * 2, none⟩)) (wanted_none rfl) (gx_iaddr (i := i) (sz := 2) rfl rfl rfl Try.underlying35 size_ent HLT.out rfl) ?_
      simp only [Act.put, List.setIfInBounds_toArray, List.set_cons_zero, List.set_cons_succ]
      refine wpList_run (v := .pointer (some ⟨b1, o1 + i * 2 + 1, none⟩)) (wanted_none rfl) (exec_field (off := o1 + i * 2) (d := 1) rfl rfl (by kernel_rfl)) ?_
      simp only [Act.put, List.setIfInBounds_toArray, List.set_cons_zero, List.set_cons_succ]
      refine wpList_run (v := .int .i64 e.2) (wanted_none rfl) (exec_load1 rfl rfl (by kernel_rfl) HC1.out) ?_
      simp only [Act.put, List.setIfInBounds_toArray, List.set_cons_zero, List.set_cons_succ]
      refine wpList_run (v := .bool false) (wanted_none rfl) (ix_eql rfl rfl rfl (decide_eq_false HZ.out)) ?_
      simp only [Act.put, List.setIfInBounds_toArray, List.set_cons_zero, List.set_cons_succ]
      go_upto_region 7 with fail
      refine wp_region_alw (fun W => W.cell? ⟨b1, o1 + i * 2 + 0, none⟩ = some (.int .i64 e.1) ∧ W.cell? ⟨b1, o1 + i * 2 + 1, none⟩ = some (.int .i64 e.2)) (by kernel_rfl) ?_
      have hS0 : (fun W => W.cell? ⟨b1, o1 + i * 2 + 0, none⟩ = some (.int .i64 e.1) ∧ W.cell? ⟨b1, o1 + i * 2 + 1, none⟩ = some (.int .i64 e.2)) wr.drew := ⟨HC0.out, HC1.out⟩
      have HD := Lib.hid ((Turn.refl nowhere wr).drew)
      generalize wr.drew = wd at *
      refine alw_take (i := 0) (v := .slice A5 m5 c5) rfl (by kernel_rfl) (by kernel_rfl) (fun _ _ _ h => h) (.inl ⟨by rfl, fun W hW => exec_move rfl rfl⟩) hS0 ?_
      simp only [Act.put, List.setIfInBounds_toArray, List.set_cons_zero, List.set_cons_succ]
      refine alw_take (i := 1) (v := .slice (some ⟨b1, o1, none⟩) n c) rfl (by kernel_rfl) (by kernel_rfl) (fun _ _ _ h => h) (.inl ⟨by rfl, fun W hW => exec_move rfl rfl⟩) hS0 ?_
      simp only [Act.put, List.setIfInBounds_toArray, List.set_cons_zero, List.set_cons_succ]
      refine alw_take (i := 2) (v := .int .i64 (i : Int)) rfl (by kernel_rfl) (by kernel_rfl) (fun _ _ _ h => h) (.inl ⟨by rfl, fun W hW => exec_move rfl rfl⟩) hS0 ?_
      simp only [Act.put, List.setIfInBounds_toArray, List.set_cons_zero, List.set_cons_succ]
      refine alw_take (i := 3) (v := .pointer (some ⟨b1, o1 + i * 2, none⟩)) rfl (by kernel_rfl) (by kernel_rfl) (fun _ _ _ h => h) (.inl ⟨by rfl, fun W hW => gx_iaddr (i := i) (sz := 2) rfl rfl rfl Try.underlying35 size_ent HLT.out rfl⟩) hS0 ?_
      simp only [Act.put, List.setIfInBounds_toArray, List.set_cons_zero, List.set_cons_succ]
      refine alw_take (i := 4) (v := .pointer (some ⟨b1, o1 + i * 2 + 0, none⟩)) rfl (by kernel_rfl) (by kernel_rfl) (fun _ _ _ h => h) (.inl ⟨by rfl, fun W hW => exec_field (off := o1 + i * 2) (d := 0) rfl rfl (by kernel_rfl)⟩) hS0 ?_
      simp only [Act.put, List.setIfInBounds_toArray, List.set_cons_zero, List.set_cons_succ]
      refine alw_take (i := 5) (v := .int .i64 e.1) rfl (by kernel_rfl) (by kernel_rfl) (fun _ _ _ h => h) (.inl ⟨by rfl, fun W hW => exec_load1 rfl rfl (by kernel_rfl) hW.1⟩) hS0 ?_
      simp only [Act.put, List.setIfInBounds_toArray, List.set_cons_zero, List.set_cons_succ]
      refine alw_take (i := 6) (v := .slice (some ⟨b1, o1, none⟩) n c) rfl (by kernel_rfl) (by kernel_rfl) (fun _ _ _ h => h) (.inl ⟨by rfl, fun W hW => exec_move rfl rfl⟩) hS0 ?_
      simp only [Act.put, List.setIfInBounds_toArray, List.set_cons_zero, List.set_cons_succ]
      refine alw_take (i := 7) (v := .int .i64 (i : Int)) rfl (by kernel_rfl) (by kernel_rfl) (fun _ _ _ h => h) (.inl ⟨by rfl, fun W hW => exec_move rfl rfl⟩) hS0 ?_
      simp only [Act.put, List.setIfInBounds_toArray, List.set_cons_zero, List.set_cons_succ]
      refine alw_take (i := 8) (v := .pointer (some ⟨b1, o1 + i * 2, none⟩)) rfl (by kernel_rfl) (by kernel_rfl) (fun _ _ _ h => h) (.inl ⟨by rfl, fun W hW => gx_iaddr (i := i) (sz := 2) rfl rfl rfl Try.underlying35 size_ent HLT.out rfl⟩) hS0 ?_
      simp only [Act.put, List.setIfInBounds_toArray, List.set_cons_zero, List.set_cons_succ]
      refine alw_take (i := 9) (v := .pointer (some ⟨b1, o1 + i * 2 + 1, none⟩)) rfl (by kernel_rfl) (by kernel_rfl) (fun _ _ _ h => h) (.inl ⟨by rfl, fun W hW => exec_field (off := o1 + i * 2) (d := 1) rfl rfl (by kernel_rfl)⟩) hS0 ?_
      simp only [Act.put, List.setIfInBounds_toArray, List.set_cons_zero, List.set_cons_succ]
      refine alw_take (i := 10) (v := .int .i64 e.2) rfl (by kernel_rfl) (by kernel_rfl) (fun _ _ _ h => h) (.inl ⟨by rfl, fun W hW => exec_load1 rfl rfl (by kernel_rfl) hW.2⟩) hS0 ?_
      simp only [Act.put, List.setIfInBounds_toArray, List.set_cons_zero, List.set_cons_succ]
      refine alw_take (i := 11) (v := .int .i64 (-e.2)) rfl (by kernel_rfl) (by kernel_rfl) (fun _ _ _ h => h) (.inl ⟨by rfl, fun W hW => ix_neg rfl rfl rfl (by have h1 := HEW.out.2; have h2 := HZ.out; unfold Mn.in64 at h1; omega)⟩) hS0 ?_
      simp only [Act.put, List.setIfInBounds_toArray, List.set_cons_zero, List.set_cons_succ]
      refine alw_take (i := 12) (v := .agg (entA (e.1, -e.2))) rfl (by kernel_rfl) (by kernel_rfl) (fun _ _ _ h => h) (.inl ⟨by rfl, fun W hW => gx_build2 rfl rfl rfl (build_ent e.1 (-e.2) _)⟩) hS0 ?_
      simp only [Act.put, List.setIfInBounds_toArray, List.set_cons_zero, List.set_cons_succ]
      have HTd := Lib.hid (HTR.out.trans HD.out fun _ _ e => e)
      obtain ⟨A6, c6, w6, hap, ho6, ht6⟩ := orw_add elmE (ty := 35) (W1 := w) (HOR.out.still HD.out) HTd.out (entC (e.1, -e.2)) rfl (entC_one _) (by rw [← HM5.out]; have h1 := congrArg List.length (turnL_snoc HEI.out); have h2 := HM5.out; have h3 := HLT.out; have h4 := HN.out; have h5 := HLEN.out; simp [Lg.turnL] at h2; omega)
      rw [← HM5.out] at hap ho6
      rw [show ((Lg.turnL (es.take i)).map entC ++ [entC (e.1, -e.2)]) = (Lg.turnL (es.take (i + 1))).map entC from by rw [turnL_snoc HEI.out, List.map_append]; rfl] at ho6
      have HAP := Lib.hid hap
      have HO6 := Lib.hid ho6
      have HT6 := Lib.hid ht6
      have hSa : (fun W : World => W.cell? ⟨b1, o1 + i * 2 + 0, none⟩ = some (.int .i64 e.1) ∧ W.cell? ⟨b1, o1 + i * 2 + 1, none⟩ = some (.int .i64 e.2)) (wd.alloc (.cells (entA (e.1, -e.2)) 57)) := ⟨(((Turn.refl nowhere wd).alloc _).cell (World.block_lt_of_cell? _ _ hS0.1) fun e => e).trans hS0.1, (((Turn.refl nowhere wd).alloc _).cell (World.block_lt_of_cell? _ _ hS0.2) fun e => e).trans hS0.2⟩
      clear hap ho6 ht6
      refine alw_step (i := 13) (by kernel_rfl) rfl rfl ?_
      intro K1 HK1
      refine wp_run (v := .slice (some ⟨wd.heap.size, 0, none⟩) 1 1) (w' := wd.alloc (.cells (entA (e.1, -e.2)) 57)) (exec_buildSlice1 rfl rfl (run_bs1 (e.1, -e.2) wd)) ?_
      refine HK1.out _ _ ⟨hSa, ?_⟩
      clear HK1
      try simp only [Act.put, List.setIfInBounds_toArray, List.set_cons_zero, List.set_cons_succ]
      have hrw := HE.out.rngw HEI.out
      have hSb : (fun W : World => W.cell? ⟨b1, o1 + i * 2 + 0, none⟩ = some (.int .i64 e.1) ∧ W.cell? ⟨b1, o1 + i * 2 + 1, none⟩ = some (.int .i64 e.2)) w6 := ⟨(HT6.out.cell (World.block_lt_of_cell? _ _ (hrw 0 _ rfl)) fun e => e).trans (hrw 0 _ rfl), (HT6.out.cell (World.block_lt_of_cell? _ _ (hrw 1 _ rfl)) fun e => e).trans (hrw 1 _ rfl)⟩
      clear hrw
      refine alw_step (i := 14) (by kernel_rfl) rfl rfl ?_
      intro K1 HK1
      refine wp_run (v := .slice A6 (m5 + 1) c6) (w' := w6) (exec_append rfl rfl rfl HAP.out) ?_
      refine HK1.out _ _ ⟨hSb, ?_⟩
      clear HK1
      try simp only [Act.put, List.setIfInBounds_toArray, List.set_cons_zero, List.set_cons_succ]
      refine alw_take (i := 15) (v := .slice A6 (m5 + 1) c6) rfl (by kernel_rfl) (by kernel_rfl) (fun _ _ _ h => h) (.inl ⟨by rfl, fun W hW => gx_assign rfl rfl⟩) hSb ?_
      simp only [Act.put, List.setIfInBounds_toArray, List.set_cons_zero, List.set_cons_succ]
      refine alw_done rfl ?_
      refine NoPanic.normal ?_
      clear hS0 hSa hSb
      go_upto_region 4 with fail
      refine wp_region_lit ?_
      refine wpList_run (v := .int .i64 (i : Int)) (wanted_none rfl) (exec_move rfl rfl) ?_
      simp only [Act.put, List.setIfInBounds_toArray, List.set_cons_zero, List.set_cons_succ]
      refine wpList_run (v := .int .i64 ((i + 1 : Nat) : Int)) (wanted_none rfl) (ix_add rfl rfl rfl (by omega) (by omega)) ?_
      simp only [Act.put, List.setIfInBounds_toArray, List.set_cons_zero, List.set_cons_succ]
      refine wpList_run (v := .int .i64 ((i + 1 : Nat) : Int)) (wanted_none rfl) (gx_assign rfl rfl) ?_
      simp only [Act.put, List.setIfInBounds_toArray, List.set_cons_zero, List.set_cons_succ]
      go_wp2_with fail
      go_roundg (n - (i + 1))
      case measure => have := HGK.out; have := HLT.out; omega
      case rel => exact ⟨i + 1, rfl, by have := HLT.out; omega, (fun x hx => by
        rw [Lg.take_snoc HEI.out] at hx
        rcases List.mem_append.1 hx with hx | hx
        · exact HOK.out x hx
        · obtain rfl : x = e := by simpa using hx
          exact HZ.out), HO6.out, HT6.out⟩
  · have HIN := Lib.hid (show i = es.length from by rw [← HLEN.out]; omega)
    clear hlt
    go_upto_region 3 with fail
    refine wp_region_lit ?_
    refine wpList_run (v := .int .i64 (i : Int)) (wanted_none rfl) (exec_move rfl rfl) ?_
    simp only [Act.put, List.setIfInBounds_toArray, List.set_cons_zero, List.set_cons_succ]
    refine wpList_run (v := .slice A n c) (wanted_none rfl) (exec_move rfl rfl) ?_
    simp only [Act.put, List.setIfInBounds_toArray, List.set_cons_zero, List.set_cons_succ]
    refine wpList_run (v := .int .i64 (n : Int)) (wanted_none rfl) (gx_len rfl rfl Try.underlying35) ?_
    simp only [Act.put, List.setIfInBounds_toArray, List.set_cons_zero, List.set_cons_succ]
    refine wpList_run (v := .bool false) (wanted_none rfl) (ix_lss rfl rfl rfl (decide_eq_false (by have := HLEN.out; have := HIN.out; omega))) ?_
    simp only [Act.put, List.setIfInBounds_toArray, List.set_cons_zero, List.set_cons_succ]
    go_upto_region 8 with fail
    refine wp_region_lit ?_
    refine wpList_run (v := .slice A5 m5 c5) (wanted_none rfl) (exec_move rfl rfl) ?_
    simp only [Act.put, List.setIfInBounds_toArray, List.set_cons_zero, List.set_cons_succ]
    refine wpList_run (v := .slice A5 m5 c5) (wanted_none rfl) (gx_assign rfl rfl) ?_
    simp only [Act.put, List.setIfInBounds_toArray, List.set_cons_zero, List.set_cons_succ]
    refine wpList_run (v := .int .i64 0) (wanted_none rfl) (gx_assign rfl rfl) ?_
    simp only [Act.put, List.setIfInBounds_toArray, List.set_cons_zero, List.set_cons_succ]
    go_wp2_with fail
    go_ret2
    have htk : es.take i = es := List.take_of_length_le (by rw [HIN.out]; exact Nat.le_refl _)
    have h0 : Lg.turnE es = 0 := turnE_ok (by have := HOK.out; rwa [htk] at this)
    refine ⟨.slice A5 m5 c5, by rw [h0]; rfl, ?_, HTR.out⟩
    unfold turnR
    rw [if_pos h0]
    have := HOR.out
    rwa [htk] at this
end Go.Proofs.Ythoefjaapjaeeaa
