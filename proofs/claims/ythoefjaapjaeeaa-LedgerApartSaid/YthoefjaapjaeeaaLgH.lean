/-
  Entries: slices.IndexFunc and slices.DeleteFunc at Payment: the walks. No conditions.
-/
import Derived.Test.YthoefjaapjaeeaaLgG
namespace Go.Proofs.Ythoefjaapjaeeaa
open Go.RowKit
open Lg (Ent)
set_option linter.unusedVariables false
set_option linter.unusedSimpArgs false
theorem box_ent (e : Ent) (w : World) : (Instr.box 57 (.agg (entA e))).run Try.prog w = .ok (.pointer (some ⟨w.heap.size, 0, none⟩)) (w.alloc (.cells (entA e) 57)) := by
  simp [Instr.box, newVar, newRow, Result.andThen, Value.cells]
theorem ent_at (e : Ent) (j : Nat) : (entA e)[j]? = (entC e)[j]? := by simp [entA, entC]
abbrev zf : Value := .func (.func 32) #[] #[]
theorem zf_walk {e : Ent} (w : World) : Calls Try.prog 32 #[.agg (entA e)] w fun r w' => r = .returned (.bool (decide (e.2 = 0))) ∧ Turn nowhere w w' := by
  go_enter Try.func32, Try.ntmps32
  go_upto_region 0 with fail
  refine wp_region_lit ?_
  refine wpList_run (v := .pointer (some ⟨(w).heap.size, 0, none⟩)) (w' := (w).alloc (.cells (entA e) 57)) (wanted_none rfl) (gx_box rfl rfl (box_ent e _)) ?_
  simp only [Act.put, List.setIfInBounds_toArray, List.set_cons_zero, List.set_cons_succ]
  refine wpList_run (v := .bool false) (wanted_none rfl) (gx_assign rfl rfl) ?_
  simp only [Act.put, List.setIfInBounds_toArray, List.set_cons_zero, List.set_cons_succ]
  have hb_q := Blk.new (w) 57 (entA e)
  have ht_ := (Turn.refl nowhere (w)).alloc (.cells (entA e) 57)
  obtain ⟨n0_, hn0_⟩ : ∃ n, n = (w).heap.size := ⟨_, rfl⟩
  have hz_q : (w).heap.size = n0_ + 0 := by rw [hn0_]; simp
  obtain ⟨q, hg_⟩ : ∃ g, g = (w).heap.size := ⟨_, rfl⟩
  rw [← hg_] at hb_q hz_q ⊢
  clear hg_
  generalize (w).alloc (.cells (entA e) 57) = w1 at *
  have HT1 := Lib.hid ht_
  clear ht_
  have HBq := Lib.hid hb_q
  have HLq := Lib.hid (show (w).heap.size ≤ q from by omega)
  clear hb_q
  clear hn0_ hz_q
  clear n0_
  go_upto_region 1 with fail
  refine wp_region_lit ?_
  refine wpList_run (v := .pointer (some ⟨q, 1, none⟩)) (wanted_none rfl) (exec_field (off := 0) (d := 1) rfl rfl (by kernel_rfl)) ?_
  simp only [Act.put, List.setIfInBounds_toArray, List.set_cons_zero, List.set_cons_succ]
  refine wpList_run (v := .int .i64 e.2) (wanted_none rfl) (exec_load1 rfl rfl (by kernel_rfl) (HBq.out.cell 1)) ?_
  simp only [Act.put, List.setIfInBounds_toArray, List.set_cons_zero, List.set_cons_succ]
  refine wpList_run (v := .bool (decide (e.2 = 0))) (wanted_none rfl) (ix_eql rfl rfl rfl rfl) ?_
  simp only [Act.put, List.setIfInBounds_toArray, List.set_cons_zero, List.set_cons_succ]
  refine wpList_run (v := .bool (decide (e.2 = 0))) (wanted_none rfl) (gx_assign rfl rfl) ?_
  simp only [Act.put, List.setIfInBounds_toArray, List.set_cons_zero, List.set_cons_succ]
  go_wp2_with fail
  go_ret
  exact ⟨rfl, HT1.out⟩
/-- the first entry of nought -/
def IdxP (es : List Ent) (r : Int) : Prop := (r = -1 ∧ ∀ e ∈ es, e.2 ≠ 0) ∨ ∃ i e, r = ((i : Nat) : Int) ∧ es[i]? = some e ∧ e.2 = 0 ∧ ∀ x ∈ es.take i, x.2 ≠ 0
set_option maxRecDepth 20000 in
set_option maxHeartbeats 4000000 in
theorem IndexFunc_walk {w : World} {A : Option Addr} {n c : Nat} {es : List Ent} (h : EntAt w A n es) (hn : n ≤ 70368744177663) : Calls Try.prog 41 #[.slice A n c, zf] w fun e w' => ∃ r, e = .returned (.int .i64 r) ∧ IdxP es r ∧ Turn nowhere w w' := by
  have HE := Lib.hid h
  have HLEN := Lib.hid h.len
  have ym : (n : Int) ≤ 70368744177663 := by omega
  clear h hn
  go_enter Try.func41, Try.ntmps41
  go_upto_region 0 with fail
  refine wp_region_lit ?_
  refine wpList_run (v := .int .i64 0) (wanted_none rfl) (gx_assign rfl rfl) ?_
  simp only [Act.put, List.setIfInBounds_toArray, List.set_cons_zero, List.set_cons_succ]
  go_upto_region 1 with fail
  refine wp_region_lit ?_
  refine wpList_run (v := .slice A n c) (wanted_none rfl) (exec_move rfl rfl) ?_
  simp only [Act.put, List.setIfInBounds_toArray, List.set_cons_zero, List.set_cons_succ]
  refine wpList_run (v := .int .i64 (n : Int)) (wanted_none rfl) (gx_len rfl rfl Try.underlying35) ?_
  simp only [Act.put, List.setIfInBounds_toArray, List.set_cons_zero, List.set_cons_succ]
  refine wpList_run (v := .int .i64 0) (wanted_none rfl) (exec_move rfl rfl) ?_
  simp only [Act.put, List.setIfInBounds_toArray, List.set_cons_zero, List.set_cons_succ]
  go_wp2_with fail
  go_loopg [8] n (fun gk iv wr => ∃ i : Nat, iv = .int .i64 (i : Int) ∧ i + gk = n ∧ (∀ x ∈ es.take i, x.2 ≠ 0) ∧ Turn nowhere w wr)
  case atStart => exact ⟨0, rfl, by omega, (fun x hx => by rw [List.take_zero] at hx; cases hx), Turn.refl _ _⟩
  obtain ⟨i, rfl, hgk, hno, htr⟩ := hrel
  have HGK := Lib.hid hgk
  have HNO := Lib.hid hno
  have HTR := Lib.hid htr
  have yi : (i : Int) ≤ (n : Int) := by omega
  clear hgk hno htr
  by_cases hlt : i < n
  · have HLT := Lib.hid hlt
    have y3 : (i : Int) < (n : Int) := by omega
    obtain ⟨e, hei⟩ := ent_some HLEN.out hlt
    have HEI := Lib.hid hei
    obtain ⟨b1, o1, e1, h1⟩ := (HE.out.still HTR.out).rng hei
    have HRR := Lib.hid h1
    subst e1
    clear h1 hei hlt
    go_upto_region 2 with fail
    refine wp_region_lit ?_
    refine wpList_run (v := .bool true) (wanted_none rfl) (ix_lss rfl rfl rfl (decide_eq_true y3)) ?_
    simp only [Act.put, List.setIfInBounds_toArray, List.set_cons_zero, List.set_cons_succ]
    go_upto_region 3 with fail
    refine wp_region_lit ?_
    refine wpList_run (v := .int .i64 (i : Int)) (wanted_none rfl) (exec_move rfl rfl) ?_
    simp only [Act.put, List.setIfInBounds_toArray, List.set_cons_zero, List.set_cons_succ]
    refine wpList_run (v := .int .i64 (i : Int)) (wanted_none rfl) (gx_assign rfl rfl) ?_
    simp only [Act.put, List.setIfInBounds_toArray, List.set_cons_zero, List.set_cons_succ]
    go_upto_region 4 with fail
    refine wp_region_lit ?_
    refine wpList_run (v := zf) (wanted_none rfl) (exec_move rfl rfl) ?_
    simp only [Act.put, List.setIfInBounds_toArray, List.set_cons_zero, List.set_cons_succ]
    refine wpList_run (v := .slice (some ⟨b1, o1, none⟩) n c) (wanted_none rfl) (exec_move rfl rfl) ?_
    simp only [Act.put, List.setIfInBounds_toArray, List.set_cons_zero, List.set_cons_succ]
    refine wpList_run (v := .int .i64 (i : Int)) (wanted_none rfl) (exec_move rfl rfl) ?_
    simp only [Act.put, List.setIfInBounds_toArray, List.set_cons_zero, List.set_cons_succ]
    refine wpList_run (v := .pointer (some ⟨b1, o1 + i * 2, none⟩)) (wanted_none rfl) (gx_iaddr (i := i) (sz := 2) rfl rfl rfl Try.underlying35 size_ent HLT.out rfl) ?_
    simp only [Act.put, List.setIfInBounds_toArray, List.set_cons_zero, List.set_cons_succ]
    refine wpList_run (v := .agg (entA e)) (wanted_none rfl) (gx_loads rfl rfl HRR.out Try.underlying57 rfl (by rw [size_ent]; rfl)) ?_
    simp only [Act.put, List.setIfInBounds_toArray, List.set_cons_zero, List.set_cons_succ]
    refine wpList_op rfl fun K9 HK9 => ?_
    go_wp2_with fail
    refine (zf_walk wr).mono ?_
    rintro e w2 ⟨rfl, ht⟩
    refine HK9.out _ _ ?_
    clear HK9
    try simp only [Act.put, List.setIfInBounds_toArray, List.set_cons_zero, List.set_cons_succ]
    have HT2 := Lib.hid (HTR.out.trans ht fun _ _ e => e)
    clear ht
    by_cases hz : e.2 = 0
    · have HZ := Lib.hid hz
      rw [decide_eq_true hz]
      clear hz
      go_upto_region 5 with fail
      refine wp_region_lit ?_
      refine wpList_run (v := .int .i64 (i : Int)) (wanted_none rfl) (exec_move rfl rfl) ?_
      simp only [Act.put, List.setIfInBounds_toArray, List.set_cons_zero, List.set_cons_succ]
      refine wpList_run (v := .int .i64 (i : Int)) (wanted_none rfl) (gx_assign rfl rfl) ?_
      simp only [Act.put, List.setIfInBounds_toArray, List.set_cons_zero, List.set_cons_succ]
      go_wp2_with fail
      go_ret
      exact ⟨_, rfl, .inr ⟨i, e, rfl, HEI.out, HZ.out, HNO.out⟩, HT2.out⟩
    · have HZ := Lib.hid hz
      rw [decide_eq_false hz]
      clear hz
      go_upto_region 6 with fail
      refine wp_region_lit ?_
      refine wpList_run (v := .int .i64 ((i + 1 : Nat) : Int)) (wanted_none rfl) (ix_add rfl rfl rfl (by omega) (by omega)) ?_
      simp only [Act.put, List.setIfInBounds_toArray, List.set_cons_zero, List.set_cons_succ]
      refine wpList_run (v := .int .i64 ((i + 1 : Nat) : Int)) (wanted_none rfl) (exec_move rfl rfl) ?_
      simp only [Act.put, List.setIfInBounds_toArray, List.set_cons_zero, List.set_cons_succ]
      go_wp2_with fail
      go_roundg (n - (i + 1))
      case measure => have := HGK.out; have := HLT.out; omega
      case rel => exact ⟨i + 1, rfl, by have := HLT.out; omega, fun x hx => by
        rw [Lg.take_snoc HEI.out] at hx
        rcases List.mem_append.1 hx with hx | hx
        · exact HNO.out x hx
        · obtain rfl : x = e := by simpa using hx
          exact HZ.out, HT2.out⟩
  · obtain rfl : i = n := by omega
    clear hlt
    go_upto_region 2 with fail
    refine wp_region_lit ?_
    refine wpList_run (v := .bool false) (wanted_none rfl) (ix_lss rfl rfl rfl (by simp)) ?_
    simp only [Act.put, List.setIfInBounds_toArray, List.set_cons_zero, List.set_cons_succ]
    go_upto_region 7 with fail
    refine wp_region_lit ?_
    refine wpList_run (v := .int .i64 (-1)) (wanted_none rfl) (gx_assign rfl rfl) ?_
    simp only [Act.put, List.setIfInBounds_toArray, List.set_cons_zero, List.set_cons_succ]
    go_wp2_with fail
    go_ret
    exact ⟨_, rfl, .inl ⟨rfl, by have := HNO.out; rwa [List.take_of_length_le (by rw [← HLEN.out]; omega)] at this⟩, HTR.out⟩
/-- what is kept -/
def kp (es : List Ent) : List Ent := es.filter fun e => e.2 != 0
theorem kp_all {es : List Ent} (h : ∀ e ∈ es, e.2 ≠ 0) : kp es = es := List.filter_eq_self.2 fun e he => by simpa using h e he
theorem kp_snoc {es : List Ent} {j : Nat} {e : Ent} (h : es[j]? = some e) : kp (es.take (j + 1)) = if e.2 = 0 then kp (es.take j) else kp (es.take j) ++ [e] := by
  rw [Lg.take_snoc h]
  unfold kp
  rw [List.filter_append]
  by_cases hz : e.2 = 0
  · rw [if_pos hz]; simp [hz]
  · rw [if_neg hz]; simp [hz]
/-- how far it is: the first i of R are what was kept of the first j, behind j all is as it was -/
structure DelR (es R : List Ent) (i j : Nat) : Prop where
  len : R.length = es.length
  lt : i < j
  le : j ≤ es.length
  kept : R.take i = kp (es.take j)
  more : R.drop j = es.drop j
theorem DelR.start {es : List Ent} {i : Nat} {e : Ent} (h : es[i]? = some e) (hz : e.2 = 0) (hno : ∀ x ∈ es.take i, x.2 ≠ 0) : DelR es es i (i + 1) :=
  ⟨rfl, by omega, (List.getElem?_eq_some_iff.1 h).1, by rw [kp_snoc h, if_pos hz, kp_all hno], rfl⟩
theorem DelR.at_ {es R : List Ent} {i j : Nat} {e : Ent} (h : DelR es R i j) (he : es[j]? = some e) : R[j]? = some e := by
  have := congrArg (fun l => l[0]?) h.more
  simpa [he] using this
theorem DelR.skip {es R : List Ent} {i j : Nat} {e : Ent} (h : DelR es R i j) (he : es[j]? = some e) (hz : e.2 = 0) : DelR es R i (j + 1) :=
  ⟨h.len, by have := h.lt; omega, (List.getElem?_eq_some_iff.1 he).1, by rw [kp_snoc he, if_pos hz]; exact h.kept, by
    have := congrArg (List.drop 1) h.more
    simpa [List.drop_drop] using this⟩
theorem DelR.take {es R : List Ent} {i j : Nat} {e : Ent} (h : DelR es R i j) (he : es[j]? = some e) (hz : ¬ e.2 = 0) : DelR es (R.set i e) (i + 1) (j + 1) := by
  have hj := (List.getElem?_eq_some_iff.1 he).1
  have h1 := h.lt
  refine ⟨by rw [List.length_set]; exact h.len, by omega, hj, ?_, ?_⟩
  · rw [kp_snoc he, if_neg hz, ← h.kept, List.take_add_one, List.take_set_of_le (by omega), List.getElem?_set_self (by rw [h.len]; omega)]
    rfl
  · rw [List.drop_set_of_lt (by omega)]
    have := congrArg (List.drop 1) h.more
    simpa [List.drop_drop] using this
theorem DelR.end_ {es R : List Ent} {i : Nat} (h : DelR es R i es.length) : R.take i = kp es := by
  have := h.kept
  rwa [List.take_length] at this
theorem DelR.ilen {es R : List Ent} {i : Nat} (h : DelR es R i es.length) : i = (kp es).length := by
  rw [← h.end_, List.length_take, h.len]
  have := h.lt
  omega
theorem map_set' {l : List Ent} {i : Nat} {e : Ent} : (l.map entC).set i (entC e) = (l.set i e).map entC := by rw [List.map_set]
theorem zero_entV (w : World) : (zeroValue 57).run Try.prog w = .ok (.agg #[.int .i64 0, .int .i64 0]) w := by kernel_rfl
set_option maxRecDepth 20000 in
set_option maxHeartbeats 4000000 in
theorem DeleteFunc_walk {w : World} {g n c B : Nat} {es : List Ent} (h : Orw w B 57 2 (.slice (some ⟨g, 0, none⟩) n c) (es.map entC)) (hl : n = es.length) (hw : ∀ e ∈ es, Mn.in64 e.1 ∧ Mn.in64 e.2) (hn : n ≤ 70368744177663) :
    Calls Try.prog 31 #[.slice (some ⟨g, 0, none⟩) n c, zf] w fun e w' => e = .returned (.slice (some ⟨g, 0, none⟩) (kp es).length c) ∧ Orw w' B 57 2 (.slice (some ⟨g, 0, none⟩) (kp es).length c) ((kp es).map entC) ∧ Turn (only g) w w' := by
  have HO := Lib.hid h
  have HLEN := Lib.hid hl
  have HN := Lib.hid hn
  have HE := Lib.hid (show EntAt w (some ⟨g, 0, none⟩) n es from ⟨h.rws (by rw [List.length_map]; omega) (by decide), hw⟩)
  have ym : (n : Int) ≤ 70368744177663 := by omega
  obtain ⟨A9, c9, e9, hnc, hcm, _⟩ := h.form
  injection e9 with e1 e2 e3
  subst e3
  have HNC := Lib.hid (show n ≤ c from by rw [List.length_map] at hnc; omega)
  have HB := Lib.hid (show ∃ cur, Blk w g 57 cur from h.own_blk rfl)
  clear h hl hw hn e1 e2 hnc hcm
  go_enter Try.func31, Try.ntmps31
  go_upto_region 0 with fail
  refine wp_region_lit ?_
  refine wpList_run (v := .slice none 0 0) (wanted_none rfl) (gx_assign rfl rfl) ?_
  simp only [Act.put, List.setIfInBounds_toArray, List.set_cons_zero, List.set_cons_succ]
  go_upto_region 1 with fail
  refine wp_region_lit ?_
  refine wpList_run (v := .slice (some ⟨g, 0, none⟩) n c) (wanted_none rfl) (exec_move rfl rfl) ?_
  simp only [Act.put, List.setIfInBounds_toArray, List.set_cons_zero, List.set_cons_succ]
  refine wpList_run (v := zf) (wanted_none rfl) (exec_move rfl rfl) ?_
  simp only [Act.put, List.setIfInBounds_toArray, List.set_cons_zero, List.set_cons_succ]
  refine wpList_op rfl fun K9 HK9 => ?_
  go_wp2_with fail
  refine (IndexFunc_walk (c := c) HE.out HN.out).mono ?_
  rintro e w2 ⟨r, rfl, hr, ht⟩
  refine HK9.out _ _ ?_
  clear HK9
  try simp only [Act.put, List.setIfInBounds_toArray, List.set_cons_zero, List.set_cons_succ]
  have HT2 := Lib.hid ht
  have HO2 := Lib.hid (HO.out.still ht)
  clear ht
  rcases hr with ⟨rfl, hall⟩ | ⟨i0, e0, rfl, he0, hz0, hno0⟩
  · have HK := Lib.hid (kp_all hall)
    clear hall
    refine wpList_run (v := .int .i64 (-1)) (wanted_none rfl) (gx_assign rfl rfl) ?_
    simp only [Act.put, List.setIfInBounds_toArray, List.set_cons_zero, List.set_cons_succ]
    go_upto_region 2 with fail
    refine wp_region_lit ?_
    refine wpList_run (v := .int .i64 (-1)) (wanted_none rfl) (exec_move rfl rfl) ?_
    simp only [Act.put, List.setIfInBounds_toArray, List.set_cons_zero, List.set_cons_succ]
    refine wpList_run (v := .bool true) (wanted_none rfl) (ix_eql rfl rfl rfl (by decide)) ?_
    simp only [Act.put, List.setIfInBounds_toArray, List.set_cons_zero, List.set_cons_succ]
    go_upto_region 3 with fail
    refine wp_region_lit ?_
    refine wpList_run (v := .slice (some ⟨g, 0, none⟩) n c) (wanted_none rfl) (exec_move rfl rfl) ?_
    simp only [Act.put, List.setIfInBounds_toArray, List.set_cons_zero, List.set_cons_succ]
    refine wpList_run (v := .slice (some ⟨g, 0, none⟩) n c) (wanted_none rfl) (gx_assign rfl rfl) ?_
    simp only [Act.put, List.setIfInBounds_toArray, List.set_cons_zero, List.set_cons_succ]
    go_wp2_with fail
    go_ret
    rw [HK.out, ← HLEN.out]
    exact ⟨rfl, HO2.out, HT2.out.mono fun _ _ e => e.elim⟩
  · have HD0 := Lib.hid (DelR.start he0 hz0 hno0)
    have hi0 := (List.getElem?_eq_some_iff.1 he0).1
    have y0 : (i0 : Int) + 1 ≤ (n : Int) := by have := HLEN.out; omega
    have HI0 := Lib.hid (show i0 + 1 ≤ n from by omega)
    clear he0 hz0 hno0 hi0
    refine wpList_run (v := .int .i64 (i0 : Int)) (wanted_none rfl) (gx_assign rfl rfl) ?_
    simp only [Act.put, List.setIfInBounds_toArray, List.set_cons_zero, List.set_cons_succ]
    go_upto_region 2 with fail
    refine wp_region_lit ?_
    refine wpList_run (v := .int .i64 (i0 : Int)) (wanted_none rfl) (exec_move rfl rfl) ?_
    simp only [Act.put, List.setIfInBounds_toArray, List.set_cons_zero, List.set_cons_succ]
    refine wpList_run (v := .bool false) (wanted_none rfl) (ix_eql rfl rfl rfl (decide_eq_false (by omega))) ?_
    simp only [Act.put, List.setIfInBounds_toArray, List.set_cons_zero, List.set_cons_succ]
    go_upto_region 4 with fail
    refine wp_region_lit ?_
    refine wpList_run (v := .int .i64 (i0 : Int)) (wanted_none rfl) (exec_move rfl rfl) ?_
    simp only [Act.put, List.setIfInBounds_toArray, List.set_cons_zero, List.set_cons_succ]
    refine wpList_run (v := .int .i64 ((i0 + 1 : Nat) : Int)) (wanted_none rfl) (ix_add rfl rfl rfl (by omega) (by omega)) ?_
    simp only [Act.put, List.setIfInBounds_toArray, List.set_cons_zero, List.set_cons_succ]
    refine wpList_run (v := .int .i64 ((i0 + 1 : Nat) : Int)) (wanted_none rfl) (gx_assign rfl rfl) ?_
    simp only [Act.put, List.setIfInBounds_toArray, List.set_cons_zero, List.set_cons_succ]
    go_wp2_with fail
    go_loopg [5, 6] n (fun gk iv jv wr => ∃ (i j : Nat) (R : List Ent), iv = .int .i64 (i : Int) ∧ jv = .int .i64 (j : Int) ∧ j + gk = n + i0 + 1 ∧ DelR es R i j ∧ Orw wr B 57 2 (.slice (some ⟨g, 0, none⟩) n c) (R.map entC) ∧ Turn (only g) w wr)
    case atStart => exact ⟨i0, i0 + 1, es, rfl, rfl, by omega, HD0.out, HO2.out, HT2.out.mono fun _ _ e => e.elim⟩
    obtain ⟨i, j, R, rfl, rfl, hgk, hdr, hor, htr⟩ := hrel
    have HGK := Lib.hid hgk
    have HDR := Lib.hid hdr
    have HOR := Lib.hid hor
    have HTR := Lib.hid htr
    have hjn : j ≤ n := by have := hdr.le; have := HLEN.out; omega
    have hij := hdr.lt
    have yi : (i : Int) < (j : Int) := by omega
    have yj : (j : Int) ≤ (n : Int) := by omega
    clear hgk hdr hor htr
    by_cases hlt : j < n
    · have HLT := Lib.hid hlt
      have y3 : (j : Int) < (n : Int) := by omega
      have HIN := Lib.hid (show i < n from by omega)
      obtain ⟨e, hei⟩ := ent_some HLEN.out hlt
      have HEJ := Lib.hid hei
      have HRR := Lib.hid (HOR.out.el (i := j) (r := entC e) (by rw [List.getElem?_map, HDR.out.at_ hei]; rfl))
      clear hei hlt hjn hij
      go_upto_region 5 with fail
      refine wp_region_lit ?_
      refine wpList_run (v := .int .i64 (j : Int)) (wanted_none rfl) (exec_move rfl rfl) ?_
      simp only [Act.put, List.setIfInBounds_toArray, List.set_cons_zero, List.set_cons_succ]
      refine wpList_run (v := .slice (some ⟨g, 0, none⟩) n c) (wanted_none rfl) (exec_move rfl rfl) ?_
      simp only [Act.put, List.setIfInBounds_toArray, List.set_cons_zero, List.set_cons_succ]
      refine wpList_run (v := .int .i64 (n : Int)) (wanted_none rfl) (gx_len rfl rfl Try.underlying35) ?_
      simp only [Act.put, List.setIfInBounds_toArray, List.set_cons_zero, List.set_cons_succ]
      refine wpList_run (v := .bool true) (wanted_none rfl) (ix_lss rfl rfl rfl (decide_eq_true y3)) ?_
      simp only [Act.put, List.setIfInBounds_toArray, List.set_cons_zero, List.set_cons_succ]
      go_upto_region 7 with fail
      refine wp_region_lit ?_
      refine wpList_run (v := .slice (some ⟨g, 0, none⟩) n c) (wanted_none rfl) (exec_move rfl rfl) ?_
      simp only [Act.put, List.setIfInBounds_toArray, List.set_cons_zero, List.set_cons_succ]
      refine wpList_run (v := .int .i64 (j : Int)) (wanted_none rfl) (exec_move rfl rfl) ?_
      simp only [Act.put, List.setIfInBounds_toArray, List.set_cons_zero, List.set_cons_succ]
      refine wpList_run (v := .pointer (some ⟨g, j * 2, none⟩)) (wanted_none rfl) (gx_iaddr (i := j) (sz := 2) rfl rfl rfl Try.underlying35 size_ent HLT.out (by omega)) ?_
      simp only [Act.put, List.setIfInBounds_toArray, List.set_cons_zero, List.set_cons_succ]
      refine wpList_run (v := .agg (entA e)) (wanted_none rfl) (gx_loads rfl rfl HRR.out Try.underlying57 rfl (by rw [size_ent]; rfl)) ?_
      simp only [Act.put, List.setIfInBounds_toArray, List.set_cons_zero, List.set_cons_succ]
      refine wpList_run (v := .pointer (some ⟨wr.heap.size, 0, none⟩)) (w' := wr.alloc (.cells (entA (0, 0)) 57)) (wanted_none rfl) (gx_alloc rfl (zero_ent _)) ?_
      simp only [Act.put, List.setIfInBounds_toArray, List.set_cons_zero, List.set_cons_succ]
      have hb_ := Blk.new wr 57 (entA (0, 0))
      have ht_ := (Turn.refl nowhere wr).alloc (.cells (entA (0, 0)) 57)
      obtain ⟨x, hg_⟩ : ∃ g, g = wr.heap.size := ⟨_, rfl⟩
      rw [← hg_] at hb_ ⊢
      have HLx := Lib.hid (show wr.heap.size ≤ x from by omega)
      clear hg_
      generalize wr.alloc (.cells (entA (0, 0)) 57) = w5 at *
      have HBx := Lib.hid hb_
      have HT5 := Lib.hid ht_
      clear hb_ ht_
      refine wpList_store_row (wanted_none rfl) 57 (.tmp 7) (.tmp 25) rfl (entA e) HBx.out rfl rfl (rfl) (by rw [size_ent] <;> rfl) (entA_one _) ?_
      intro w6 hb_ ht_
      have HBx6 := Lib.hid hb_
      have HT6 := Lib.hid ht_
      clear hb_ ht_
      simp only [Act.put, List.setIfInBounds_toArray, List.set_cons_zero, List.set_cons_succ]
      have HT56 := Lib.hid (HT5.out.trans HT6.out fun k hk e => by have := HLx.out; have e : k = x := e; omega)
      clear HBx HT5 HT6 HRR
      go_upto_region 8 with fail
      refine wp_region_lit ?_
      refine wpList_run (v := zf) (wanted_none rfl) (exec_move rfl rfl) ?_
      simp only [Act.put, List.setIfInBounds_toArray, List.set_cons_zero, List.set_cons_succ]
      refine wpList_run (v := .agg (entA e)) (wanted_none rfl) (gx_loads rfl rfl (blk_range HBx6.out) Try.underlying57 rfl (by rw [size_ent]; rfl)) ?_
      simp only [Act.put, List.setIfInBounds_toArray, List.set_cons_zero, List.set_cons_succ]
      refine wpList_op rfl fun K9 HK9 => ?_
      go_wp2_with fail
      refine (zf_walk w6).mono ?_
      rintro e w7 ⟨rfl, ht⟩
      refine HK9.out _ _ ?_
      clear HK9
      try simp only [Act.put, List.setIfInBounds_toArray, List.set_cons_zero, List.set_cons_succ]
      have HT7 := Lib.hid (HT56.out.trans ht fun _ _ e => e)
      have HBx7 := Lib.hid (HBx6.out.turn ht fun e => e)
      clear ht HT56 HBx6
      have HO7 := Lib.hid (HOR.out.still HT7.out)
      have HT7w := Lib.hid (HTR.out.trans HT7.out fun _ _ e => e.elim)
      by_cases hz : e.2 = 0
      · have HZ := Lib.hid hz
        rw [decide_eq_true hz]
        clear hz
        refine wpList_run (v := .bool false) (wanted_none rfl) (ix_not (b := true) rfl rfl) ?_
        simp only [Act.put, List.setIfInBounds_toArray, List.set_cons_zero, List.set_cons_succ]
        go_upto_region 6 with fail
        refine wp_region_lit ?_
        refine wpList_run (v := .int .i64 (j : Int)) (wanted_none rfl) (exec_move rfl rfl) ?_
        simp only [Act.put, List.setIfInBounds_toArray, List.set_cons_zero, List.set_cons_succ]
        refine wpList_run (v := .int .i64 ((j + 1 : Nat) : Int)) (wanted_none rfl) (ix_add rfl rfl rfl (by omega) (by omega)) ?_
        simp only [Act.put, List.setIfInBounds_toArray, List.set_cons_zero, List.set_cons_succ]
        refine wpList_run (v := .int .i64 ((j + 1 : Nat) : Int)) (wanted_none rfl) (gx_assign rfl rfl) ?_
        simp only [Act.put, List.setIfInBounds_toArray, List.set_cons_zero, List.set_cons_succ]
        go_wp2_with fail
        go_roundg (n + i0 + 1 - (j + 1))
        case measure => have := HGK.out; have := HLT.out; omega
        case rel => exact ⟨i, j + 1, R, rfl, rfl, by have := HLT.out; omega, HDR.out.skip HEJ.out HZ.out, HO7.out, HT7w.out⟩
      · have HZ := Lib.hid hz
        rw [decide_eq_false hz]
        clear hz
        obtain ⟨cur, hcur⟩ := HO7.out.own_blk rfl
        have HCUR := Lib.hid hcur
        have hcs := orw_block HO7.out
        obtain ⟨cur0, hc0, hc1, _⟩ := hcs
        obtain rfl := hc0.inj hcur
        have HCS := Lib.hid hc1
        clear hcur hc0 hc1
        refine wpList_run (v := .bool true) (wanted_none rfl) (ix_not (b := false) rfl rfl) ?_
        simp only [Act.put, List.setIfInBounds_toArray, List.set_cons_zero, List.set_cons_succ]
        go_upto_region 9 with fail
        refine wp_region_lit ?_
        refine wpList_run (v := .slice (some ⟨g, 0, none⟩) n c) (wanted_none rfl) (exec_move rfl rfl) ?_
        simp only [Act.put, List.setIfInBounds_toArray, List.set_cons_zero, List.set_cons_succ]
        refine wpList_run (v := .int .i64 (i : Int)) (wanted_none rfl) (exec_move rfl rfl) ?_
        simp only [Act.put, List.setIfInBounds_toArray, List.set_cons_zero, List.set_cons_succ]
        refine wpList_run (v := .agg (entA e)) (wanted_none rfl) (gx_loads rfl rfl (blk_range HBx7.out) Try.underlying57 rfl (by rw [size_ent]; rfl)) ?_
        simp only [Act.put, List.setIfInBounds_toArray, List.set_cons_zero, List.set_cons_succ]
        refine wpList_run (v := .pointer (some ⟨g, i * 2, none⟩)) (wanted_none rfl) (gx_iaddr (i := i) (sz := 2) rfl rfl rfl Try.underlying35 size_ent HIN.out (by omega)) ?_
        simp only [Act.put, List.setIfInBounds_toArray, List.set_cons_zero, List.set_cons_succ]
        refine wpList_store_mid rfl 57 (.tmp 33) (.tmp 32) rfl (entA e) HCUR.out rfl rfl (by rw [HCS.out]; have := HIN.out; have := HNC.out; show i * 2 + 2 ≤ c * 2; omega) (by rw [size_ent]; rfl) (entA_one _) ?_
        intro w8 C8 hb8 hs8 hc8 ht8
        have ho8 := orw_set HO7.out HCUR.out hb8 hs8 HIN.out (r := entC e) rfl (entC_one e) (fun q => by rw [hc8, ent_at]; rfl) (by decide)
        rw [map_set'] at ho8
        have HO8 := Lib.hid ho8
        have HT8w := Lib.hid (HT7w.out.trans ht8 fun _ _ e => e)
        clear hb8 hs8 hc8 ht8 ho8
        simp only [Act.put, List.setIfInBounds_toArray, List.set_cons_zero, List.set_cons_succ]
        go_upto_region 10 with fail
        refine wp_region_lit ?_
        refine wpList_run (v := .int .i64 (i : Int)) (wanted_none rfl) (exec_move rfl rfl) ?_
        simp only [Act.put, List.setIfInBounds_toArray, List.set_cons_zero, List.set_cons_succ]
        refine wpList_run (v := .int .i64 ((i + 1 : Nat) : Int)) (wanted_none rfl) (ix_add rfl rfl rfl (by omega) (by omega)) ?_
        simp only [Act.put, List.setIfInBounds_toArray, List.set_cons_zero, List.set_cons_succ]
        refine wpList_run (v := .int .i64 ((i + 1 : Nat) : Int)) (wanted_none rfl) (gx_assign rfl rfl) ?_
        simp only [Act.put, List.setIfInBounds_toArray, List.set_cons_zero, List.set_cons_succ]
        go_upto_region 6 with fail
        refine wp_region_lit ?_
        refine wpList_run (v := .int .i64 (j : Int)) (wanted_none rfl) (exec_move rfl rfl) ?_
        simp only [Act.put, List.setIfInBounds_toArray, List.set_cons_zero, List.set_cons_succ]
        refine wpList_run (v := .int .i64 ((j + 1 : Nat) : Int)) (wanted_none rfl) (ix_add rfl rfl rfl (by omega) (by omega)) ?_
        simp only [Act.put, List.setIfInBounds_toArray, List.set_cons_zero, List.set_cons_succ]
        refine wpList_run (v := .int .i64 ((j + 1 : Nat) : Int)) (wanted_none rfl) (gx_assign rfl rfl) ?_
        simp only [Act.put, List.setIfInBounds_toArray, List.set_cons_zero, List.set_cons_succ]
        go_wp2_with fail
        go_roundg (n + i0 + 1 - (j + 1))
        case measure => have := HGK.out; have := HLT.out; omega
        case rel => exact ⟨i + 1, j + 1, R.set i e, rfl, rfl, by have := HLT.out; omega, HDR.out.take HEJ.out HZ.out, HO8.out, HT8w.out⟩
    · obtain rfl : j = n := by omega
      have hdz : DelR es R i es.length := by rw [← HLEN.out]; exact HDR.out
      have HIL := Lib.hid hdz.ilen
      have HRE := Lib.hid hdz.end_
      have HIN := Lib.hid (show i < j from by omega)
      obtain ⟨cur, hcur⟩ := HOR.out.own_blk rfl
      obtain ⟨cur0, hc0, hc1, _⟩ := orw_block HOR.out
      obtain rfl := hc0.inj hcur
      obtain ⟨w8, hrun, ht8, cur8, hb8, hs8, htk8⟩ := run_clearK elmE zero_entV (by decide) (ty := 0) (o := 0 + i * 2) (n := j - i) (c := c - i) hcur (by rw [hc1]; have := HNC.out; omega)
      have hop := orw_pre HOR.out (e := i) (by have := HIN.out; omega)
      rw [← List.map_take, HRE.out] at hop
      have hoz := hop.cleared hcur hb8 hs8 (o := 0 + i * 2) (by omega) htk8
      have HRUN := Lib.hid hrun
      have HOZ := Lib.hid hoz
      have HTZ := Lib.hid (HTR.out.trans ht8 fun _ _ e => e)
      clear hlt hjn hij hdz hcur hc0 hc1 hrun ht8 hb8 hs8 htk8 hop hoz
      go_upto_region 5 with fail
      refine wp_region_lit ?_
      refine wpList_run (v := .int .i64 (j : Int)) (wanted_none rfl) (exec_move rfl rfl) ?_
      simp only [Act.put, List.setIfInBounds_toArray, List.set_cons_zero, List.set_cons_succ]
      refine wpList_run (v := .slice (some ⟨g, 0, none⟩) j c) (wanted_none rfl) (exec_move rfl rfl) ?_
      simp only [Act.put, List.setIfInBounds_toArray, List.set_cons_zero, List.set_cons_succ]
      refine wpList_run (v := .int .i64 (j : Int)) (wanted_none rfl) (gx_len rfl rfl Try.underlying35) ?_
      simp only [Act.put, List.setIfInBounds_toArray, List.set_cons_zero, List.set_cons_succ]
      refine wpList_run (v := .bool false) (wanted_none rfl) (ix_lss rfl rfl rfl (by simp)) ?_
      simp only [Act.put, List.setIfInBounds_toArray, List.set_cons_zero, List.set_cons_succ]
      go_upto_region 11 with fail
      refine wp_region_lit ?_
      refine wpList_run (v := .slice (some ⟨g, 0, none⟩) j c) (wanted_none rfl) (exec_move rfl rfl) ?_
      simp only [Act.put, List.setIfInBounds_toArray, List.set_cons_zero, List.set_cons_succ]
      refine wpList_run (v := .int .i64 (i : Int)) (wanted_none rfl) (exec_move rfl rfl) ?_
      simp only [Act.put, List.setIfInBounds_toArray, List.set_cons_zero, List.set_cons_succ]
      refine wpList_run (v := .slice (some ⟨g, 0 + i * 2, none⟩) (j - i) (c - i)) (wanted_none rfl) (exec_slice rfl rfl rfl rfl rfl (by rw [← fromK_at (k := 2) (g := g) (o := 0) (c := c) (d := i) (by have := HIN.out; have := HNC.out; omega)]; exact sl_from elmE _ j c i (by have := HIN.out; omega) HNC.out _)) ?_
      simp only [Act.put, List.setIfInBounds_toArray, List.set_cons_zero, List.set_cons_succ]
      refine wpList_run (v := .tuple #[]) (w' := w8) (wanted_none rfl) (exec_clear rfl rfl HRUN.out) ?_
      simp only [Act.put, List.setIfInBounds_toArray, List.set_cons_zero, List.set_cons_succ]
      go_upto_region 12 with fail
      refine wp_region_lit ?_
      refine wpList_run (v := .slice (some ⟨g, 0, none⟩) j c) (wanted_none rfl) (exec_move rfl rfl) ?_
      simp only [Act.put, List.setIfInBounds_toArray, List.set_cons_zero, List.set_cons_succ]
      refine wpList_run (v := .int .i64 (i : Int)) (wanted_none rfl) (exec_move rfl rfl) ?_
      simp only [Act.put, List.setIfInBounds_toArray, List.set_cons_zero, List.set_cons_succ]
      refine wpList_run (v := .slice (some ⟨g, 0, none⟩) i c) (wanted_none rfl) (exec_slice rfl rfl rfl rfl rfl (sl_to elmE _ j c i (by have := HIN.out; have := HNC.out; omega) _)) ?_
      simp only [Act.put, List.setIfInBounds_toArray, List.set_cons_zero, List.set_cons_succ]
      refine wpList_run (v := .slice (some ⟨g, 0, none⟩) i c) (wanted_none rfl) (gx_assign rfl rfl) ?_
      simp only [Act.put, List.setIfInBounds_toArray, List.set_cons_zero, List.set_cons_succ]
      go_wp2_with fail
      go_ret
      rw [← HIL.out]
      exact ⟨rfl, HOZ.out, HTZ.out⟩
end Go.Proofs.Ythoefjaapjaeeaa
