/-
  The reference's plant: Flush: the walk. No conditions.
-/
import Derived.Test.YteedjfgandgbkaaPpE
namespace Go.Proofs.Yteedjfgandgbkaa
open Go.RowKit Go.Maps
set_option linter.unusedVariables false
set_option linter.unusedSimpArgs false
theorem wrow_one (x : WtR × Value) (h : x.2.oneCell' = true) : ∀ u ∈ wrow x, u.oneCell' = true := fun u hu => by
  simp only [wrow, List.mem_cons, List.not_mem_nil, or_false] at hu
  rcases hu with rfl | rfl | rfl
  · rfl
  · rfl
  · exact h
theorem layR_take {R : List WtR} {j : Nat} {x : WtR} (h : R[j]? = some x) (i : Nat) (f : Int → Option Sec) : layR (R.take (j + 1)) i f = if x.1 = i then upd (layR (R.take j) i f) x.2.1 x.2.2 else layR (R.take j) i f := by
  unfold layR
  rw [List.take_add_one, h]
  simp only [Option.toList, List.foldl_append, List.foldl_cons, List.foldl_nil]
theorem filt_take {ws : List (WtR × Value)} {j : Nat} {x : WtR × Value} (h : ws[j]? = some x) (i : Nat) : (ws.take (j + 1)).filter (fun x => !decide (x.1.1 = i)) = (ws.take j).filter (fun x => !decide (x.1.1 = i)) ++ (if x.1.1 = i then [] else [x]) := by
  rw [List.take_add_one, h]
  simp only [Option.toList, List.filter_append]
  by_cases e : x.1.1 = i
  · rw [if_pos e, List.filter_cons_of_neg (by simp [e])]; rfl
  · rw [if_neg e, List.filter_cons_of_pos (by simp [e])]; rfl
theorem getQ' {α : Type} {l : List α} {i : Nat} (h : i < l.length) : ∃ x, l[i]? = some x := ⟨_, List.getElem?_eq_getElem h⟩
theorem set_set' {α : Type} (l : List α) (i : Nat) (x y : α) : (l.set i x).set i y = l.set i y := List.set_set ..
section
variable {w w' : World} {q : Nat} {G Z : Nat → Prop} {a : RP}
theorem RAt.flush_no (h : RAt w q G Z a) {dev : Int} (hno : a.off = true ∨ ¬ (0 ≤ dev ∧ dev < (a.ds.length : Int))) : Calls Try.prog 14 #[.pointer (some ⟨q, 0, none⟩), .int .i64 dev] w fun e w' => e = .returned (.int .i64 (if a.off then 2 else 31)) ∧ w' = w := by
  obtain ⟨mv, hv, wv, zs, rows, ws, h, rfl⟩ := h
  have hb := h.blk
  cases ho : a.off with
  | true =>
    rw [ho] at hb
    have HB := Lib.hid hb
    clear hb hno h ho
    go_enter Try.func14, Try.ntmps14
    go_upto_region 0 with fail
    refine wp_region_lit ?_
    refine wpList_run (v := .int .i64 0) (wanted_none rfl) (gx_assign rfl rfl) ?_
    simp only [Act.put, List.setIfInBounds_toArray, List.set_cons_zero, List.set_cons_succ]
    go_upto_region 1 with fail
    refine wp_region_lit ?_
    refine wpList_run (v := .pointer (some ⟨q, 0, none⟩)) (wanted_none rfl) (exec_move rfl rfl) ?_
    simp only [Act.put, List.setIfInBounds_toArray, List.set_cons_zero, List.set_cons_succ]
    refine wpList_run (v := .pointer (some ⟨q, 0, none⟩)) (wanted_none rfl) (exec_nil rfl rfl) ?_
    simp only [Act.put, List.setIfInBounds_toArray, List.set_cons_zero, List.set_cons_succ]
    refine wpList_run (v := .pointer (some ⟨q, 3, none⟩)) (wanted_none rfl) (exec_field (off := 0) (d := 3) rfl rfl (by kernel_rfl)) ?_
    simp only [Act.put, List.setIfInBounds_toArray, List.set_cons_zero, List.set_cons_succ]
    refine wpList_run (v := .bool true) (wanted_none rfl) (exec_load1 rfl rfl (by kernel_rfl) (HB.out.cell 3)) ?_
    simp only [Act.put, List.setIfInBounds_toArray, List.set_cons_zero, List.set_cons_succ]
    refine wpList_run (v := .bool true) (wanted_none rfl) (gx_assign rfl rfl) ?_
    simp only [Act.put, List.setIfInBounds_toArray, List.set_cons_zero, List.set_cons_succ]
    go_upto_region 2 with fail
    refine wp_region_lit ?_
    refine wpList_run (v := .int .i64 2) (wanted_none rfl) (gx_assign rfl rfl) ?_
    simp only [Act.put, List.setIfInBounds_toArray, List.set_cons_zero, List.set_cons_succ]
    go_wp2_with fail
    go_ret
    exact ⟨rfl, rfl⟩
  | false =>
    rw [ho] at hb
    have hn := hno.resolve_left (by rw [ho]; decide)
    obtain ⟨A, c, rfl, hz⟩ := h.mform
    have HB := Lib.hid hb
    have HH := Lib.hid (rhas_bad hb dev hn)
    clear hb hno h ho hn hz
    go_enter Try.func14, Try.ntmps14
    go_upto_region 0 with fail
    refine wp_region_lit ?_
    refine wpList_run (v := .int .i64 0) (wanted_none rfl) (gx_assign rfl rfl) ?_
    simp only [Act.put, List.setIfInBounds_toArray, List.set_cons_zero, List.set_cons_succ]
    go_upto_region 1 with fail
    refine wp_region_lit ?_
    refine wpList_run (v := .pointer (some ⟨q, 0, none⟩)) (wanted_none rfl) (exec_move rfl rfl) ?_
    simp only [Act.put, List.setIfInBounds_toArray, List.set_cons_zero, List.set_cons_succ]
    refine wpList_run (v := .pointer (some ⟨q, 0, none⟩)) (wanted_none rfl) (exec_nil rfl rfl) ?_
    simp only [Act.put, List.setIfInBounds_toArray, List.set_cons_zero, List.set_cons_succ]
    refine wpList_run (v := .pointer (some ⟨q, 3, none⟩)) (wanted_none rfl) (exec_field (off := 0) (d := 3) rfl rfl (by kernel_rfl)) ?_
    simp only [Act.put, List.setIfInBounds_toArray, List.set_cons_zero, List.set_cons_succ]
    refine wpList_run (v := .bool false) (wanted_none rfl) (exec_load1 rfl rfl (by kernel_rfl) (HB.out.cell 3)) ?_
    simp only [Act.put, List.setIfInBounds_toArray, List.set_cons_zero, List.set_cons_succ]
    refine wpList_run (v := .bool false) (wanted_none rfl) (gx_assign rfl rfl) ?_
    simp only [Act.put, List.setIfInBounds_toArray, List.set_cons_zero, List.set_cons_succ]
    go_upto_region 3 with fail
    refine wp_region_lit ?_
    refine wpList_run (v := .pointer (some ⟨q, 0, none⟩)) (wanted_none rfl) (exec_move rfl rfl) ?_
    simp only [Act.put, List.setIfInBounds_toArray, List.set_cons_zero, List.set_cons_succ]
    refine wpList_run (v := .int .i64 dev) (wanted_none rfl) (exec_move rfl rfl) ?_
    simp only [Act.put, List.setIfInBounds_toArray, List.set_cons_zero, List.set_cons_succ]
    refine wpList_op rfl fun K9 HK9 => ?_
    go_wp2_with fail
    refine (HH.out).mono ?_
    rintro e w2 ⟨rfl, rfl⟩
    refine HK9.out _ _ ?_
    clear HK9
    try simp only [Act.put, List.setIfInBounds_toArray, List.set_cons_zero, List.set_cons_succ]
    refine wpList_run (v := .bool true) (wanted_none rfl) (ix_not (b := false) rfl rfl) ?_
    simp only [Act.put, List.setIfInBounds_toArray, List.set_cons_zero, List.set_cons_succ]
    refine wpList_run (v := .bool true) (wanted_none rfl) (gx_assign rfl rfl) ?_
    simp only [Act.put, List.setIfInBounds_toArray, List.set_cons_zero, List.set_cons_succ]
    go_upto_region 4 with fail
    refine wp_region_lit ?_
    refine wpList_run (v := .int .i64 31) (wanted_none rfl) (gx_assign rfl rfl) ?_
    simp only [Act.put, List.setIfInBounds_toArray, List.set_cons_zero, List.set_cons_succ]
    go_wp2_with fail
    go_ret
    exact ⟨rfl, rfl⟩
theorem RAt.flush_end (h : RAt w q G Z a) {i : Nat} {e : Nat × (Int → Option Sec)} (ho : a.off = false) (he : a.ds[i]? = some e) (hb1 : a.burns = true) (hl : a.left = 0) : Calls Try.prog 14 #[.pointer (some ⟨q, 0, none⟩), .int .i64 (i : Int)] w fun e w' => e = .returned (.int .i64 2) ∧ RTo w q G Z a.cut w' := by
  obtain ⟨mv, hv, wv, zs, rows, ws, h, rfl⟩ := h
  have hb := h.blk
  rw [ho, hb1, hl] at hb
  obtain ⟨A, c, rfl, hz⟩ := h.mform
  have HB := Lib.hid hb
  have HH := Lib.hid (rhas_good hb i (List.getElem?_eq_some_iff.1 he).1)
  have HS := Lib.hid (rstep_end hb)
  have HX := Lib.hid h
  have HL := Lib.hid hl
  clear hb h ho he hb1 hl hz
  go_enter Try.func14, Try.ntmps14
  go_upto_region 0 with fail
  refine wp_region_lit ?_
  refine wpList_run (v := .int .i64 0) (wanted_none rfl) (gx_assign rfl rfl) ?_
  simp only [Act.put, List.setIfInBounds_toArray, List.set_cons_zero, List.set_cons_succ]
  go_upto_region 1 with fail
  refine wp_region_lit ?_
  refine wpList_run (v := .pointer (some ⟨q, 0, none⟩)) (wanted_none rfl) (exec_move rfl rfl) ?_
  simp only [Act.put, List.setIfInBounds_toArray, List.set_cons_zero, List.set_cons_succ]
  refine wpList_run (v := .pointer (some ⟨q, 0, none⟩)) (wanted_none rfl) (exec_nil rfl rfl) ?_
  simp only [Act.put, List.setIfInBounds_toArray, List.set_cons_zero, List.set_cons_succ]
  refine wpList_run (v := .pointer (some ⟨q, 3, none⟩)) (wanted_none rfl) (exec_field (off := 0) (d := 3) rfl rfl (by kernel_rfl)) ?_
  simp only [Act.put, List.setIfInBounds_toArray, List.set_cons_zero, List.set_cons_succ]
  refine wpList_run (v := .bool false) (wanted_none rfl) (exec_load1 rfl rfl (by kernel_rfl) (HB.out.cell 3)) ?_
  simp only [Act.put, List.setIfInBounds_toArray, List.set_cons_zero, List.set_cons_succ]
  refine wpList_run (v := .bool false) (wanted_none rfl) (gx_assign rfl rfl) ?_
  simp only [Act.put, List.setIfInBounds_toArray, List.set_cons_zero, List.set_cons_succ]
  go_upto_region 3 with fail
  refine wp_region_lit ?_
  refine wpList_run (v := .pointer (some ⟨q, 0, none⟩)) (wanted_none rfl) (exec_move rfl rfl) ?_
  simp only [Act.put, List.setIfInBounds_toArray, List.set_cons_zero, List.set_cons_succ]
  refine wpList_run (v := .int .i64 (i : Int)) (wanted_none rfl) (exec_move rfl rfl) ?_
  simp only [Act.put, List.setIfInBounds_toArray, List.set_cons_zero, List.set_cons_succ]
  refine wpList_op rfl fun K9 HK9 => ?_
  go_wp2_with fail
  refine (HH.out).mono ?_
  rintro e w2 ⟨rfl, rfl⟩
  refine HK9.out _ _ ?_
  clear HK9
  try simp only [Act.put, List.setIfInBounds_toArray, List.set_cons_zero, List.set_cons_succ]
  refine wpList_run (v := .bool false) (wanted_none rfl) (ix_not (b := true) rfl rfl) ?_
  simp only [Act.put, List.setIfInBounds_toArray, List.set_cons_zero, List.set_cons_succ]
  refine wpList_run (v := .bool false) (wanted_none rfl) (gx_assign rfl rfl) ?_
  simp only [Act.put, List.setIfInBounds_toArray, List.set_cons_zero, List.set_cons_succ]
  go_upto_region 5 with fail
  refine wp_region_lit ?_
  refine wpList_run (v := .pointer (some ⟨q, 0, none⟩)) (wanted_none rfl) (exec_move rfl rfl) ?_
  simp only [Act.put, List.setIfInBounds_toArray, List.set_cons_zero, List.set_cons_succ]
  refine wpList_op rfl fun K9 HK9 => ?_
  go_wp2_with fail
  refine (HS.out).mono ?_
  rintro e w3 ⟨rfl, hb3, ht3⟩
  refine HK9.out _ _ ?_
  clear HK9
  try simp only [Act.put, List.setIfInBounds_toArray, List.set_cons_zero, List.set_cons_succ]
  have HF := Lib.hid (show RTo _ q (RG q rows wv) Z a.cut w3 from ⟨_, _, (show RAtX w3 q Z a.cut _ hv wv zs rows ws from by
    have := HX.out.top hb3 ht3
    unfold RP.cut
    rw [← HL.out] at this
    exact this).at_, fun _ h => .inl h, fun _ h => .inl h, only_rg rows wv ht3⟩)
  clear hb3 ht3
  refine wpList_run (v := .bool true) (wanted_none rfl) (ix_not (b := false) rfl rfl) ?_
  simp only [Act.put, List.setIfInBounds_toArray, List.set_cons_zero, List.set_cons_succ]
  refine wpList_run (v := .bool true) (wanted_none rfl) (gx_assign rfl rfl) ?_
  simp only [Act.put, List.setIfInBounds_toArray, List.set_cons_zero, List.set_cons_succ]
  go_upto_region 6 with fail
  refine wp_region_lit ?_
  refine wpList_run (v := .int .i64 2) (wanted_none rfl) (gx_assign rfl rfl) ?_
  simp only [Act.put, List.setIfInBounds_toArray, List.set_cons_zero, List.set_cons_succ]
  go_wp2_with fail
  go_ret
  exact ⟨rfl, HF.out⟩
set_option maxRecDepth 20000 in
set_option maxHeartbeats 4000000 in
theorem RAt.flush_at (h : RAt w q G Z a) {i : Nat} {e : Nat × (Int → Option Sec)} (ho : a.off = false) (he : a.ds[i]? = some e) (h0 : a.burns = true → 0 < a.left ∧ a.left ≤ 9223372036854775807) (hd : 0 ≤ a.done ∧ a.done ≤ 4611686018427387904) (hR : a.R.length < 1099511627776) :
    Calls Try.prog 14 #[.pointer (some ⟨q, 0, none⟩), .int .i64 (i : Int)] w fun e w' => e = .returned (.int .i64 0) ∧ RTo w q G Z (a.flush i) w' := by
  obtain ⟨mv, hv, wv, zs, rows, ws, h, rfl⟩ := h
  have hb := h.blk
  rw [ho] at hb
  have HSTP := Lib.hid (h.step ho h0 hd)
  have hlt0 : ∀ b, RG q rows wv b → b < w.heap.size := fun b hb => h.lt hb
  obtain ⟨A, c, rfl, hz⟩ := h.mform
  obtain ⟨hvb, hc, rfl⟩ := h.hform
  have hwl : ws.length = a.R.length := by rw [← h.wr, List.length_map]
  obtain ⟨Aw, cw, rfl, _, _, hcz, _⟩ := h.wts.form
  have hi0 := (List.getElem?_eq_some_iff.1 he).1
  simp only [List.length_map] at *
  generalize hn : ws.length = n at *
  generalize hm : a.ds.length = m at *
  have hi : i < m := hi0
  have HB := Lib.hid hb
  have HH := Lib.hid (rhas_good hb i hi)
  have HX := Lib.hid h
  have HE := Lib.hid he
  have HO := Lib.hid ho
  have HN := Lib.hid (show n = ws.length ∧ n = a.R.length from ⟨hn.symm, by omega⟩)
  have HM := Lib.hid hm
  have HI := Lib.hid hi
  have HL0 := Lib.hid hlt0
  have yn : (n : Int) < 1099511627776 := by omega
  have ym : (i : Int) < (m : Int) := by omega
  clear hb h ho he h0 hd hR hz hwl hn hcz hi hi0 hlt0 hm
  go_enter Try.func14, Try.ntmps14
  go_upto_region 0 with fail
  refine wp_region_lit ?_
  refine wpList_run (v := .int .i64 0) (wanted_none rfl) (gx_assign rfl rfl) ?_
  simp only [Act.put, List.setIfInBounds_toArray, List.set_cons_zero, List.set_cons_succ]
  go_upto_region 1 with fail
  refine wp_region_lit ?_
  refine wpList_run (v := .pointer (some ⟨q, 0, none⟩)) (wanted_none rfl) (exec_move rfl rfl) ?_
  simp only [Act.put, List.setIfInBounds_toArray, List.set_cons_zero, List.set_cons_succ]
  refine wpList_run (v := .pointer (some ⟨q, 0, none⟩)) (wanted_none rfl) (exec_nil rfl rfl) ?_
  simp only [Act.put, List.setIfInBounds_toArray, List.set_cons_zero, List.set_cons_succ]
  refine wpList_run (v := .pointer (some ⟨q, 3, none⟩)) (wanted_none rfl) (exec_field (off := 0) (d := 3) rfl rfl (by kernel_rfl)) ?_
  simp only [Act.put, List.setIfInBounds_toArray, List.set_cons_zero, List.set_cons_succ]
  refine wpList_run (v := .bool false) (wanted_none rfl) (exec_load1 rfl rfl (by kernel_rfl) (HB.out.cell 3)) ?_
  simp only [Act.put, List.setIfInBounds_toArray, List.set_cons_zero, List.set_cons_succ]
  refine wpList_run (v := .bool false) (wanted_none rfl) (gx_assign rfl rfl) ?_
  simp only [Act.put, List.setIfInBounds_toArray, List.set_cons_zero, List.set_cons_succ]
  go_upto_region 3 with fail
  refine wp_region_lit ?_
  refine wpList_run (v := .pointer (some ⟨q, 0, none⟩)) (wanted_none rfl) (exec_move rfl rfl) ?_
  simp only [Act.put, List.setIfInBounds_toArray, List.set_cons_zero, List.set_cons_succ]
  refine wpList_run (v := .int .i64 (i : Int)) (wanted_none rfl) (exec_move rfl rfl) ?_
  simp only [Act.put, List.setIfInBounds_toArray, List.set_cons_zero, List.set_cons_succ]
  refine wpList_op rfl fun K9 HK9 => ?_
  go_wp2_with fail
  refine (HH.out).mono ?_
  rintro e w2 ⟨rfl, rfl⟩
  refine HK9.out _ _ ?_
  clear HK9
  try simp only [Act.put, List.setIfInBounds_toArray, List.set_cons_zero, List.set_cons_succ]
  refine wpList_run (v := .bool false) (wanted_none rfl) (ix_not (b := true) rfl rfl) ?_
  simp only [Act.put, List.setIfInBounds_toArray, List.set_cons_zero, List.set_cons_succ]
  refine wpList_run (v := .bool false) (wanted_none rfl) (gx_assign rfl rfl) ?_
  simp only [Act.put, List.setIfInBounds_toArray, List.set_cons_zero, List.set_cons_succ]
  go_upto_region 5 with fail
  refine wp_region_lit ?_
  refine wpList_run (v := .pointer (some ⟨q, 0, none⟩)) (wanted_none rfl) (exec_move rfl rfl) ?_
  simp only [Act.put, List.setIfInBounds_toArray, List.set_cons_zero, List.set_cons_succ]
  refine wpList_op rfl fun K9 HK9 => ?_
  go_wp2_with fail
  refine (HSTP.out).mono ?_
  rintro e w3 ⟨rfl, hb3, ht3⟩
  refine HK9.out _ _ ?_
  clear HK9
  try simp only [Act.put, List.setIfInBounds_toArray, List.set_cons_zero, List.set_cons_succ]
  have hx3 := HX.out.top hb3 ht3
  have HX3 := Lib.hid (show RAtX w3 q Z { a.tick with ds := a.ds.set i (e.1, layR (a.R.take 0) i e.2) } _ _ _ zs rows ws from by
    have e1 : a.ds.set i (e.1, layR (a.R.take 0) i e.2) = a.ds := by
      apply List.ext_getElem?
      intro j
      by_cases hj : i = j
      · subst hj
        rw [List.getElem?_set_self (List.getElem?_eq_some_iff.1 HE.out).1, HE.out]
        rfl
      · rw [List.getElem?_set_ne hj]
    rw [e1]
    unfold RP.tick
    rw [← HO.out] at hx3
    exact hx3)
  have HT3 := Lib.hid (only_rg rows (.slice Aw n cw) ht3)
  clear hx3 hb3 ht3
  refine wpList_run (v := .bool false) (wanted_none rfl) (ix_not (b := true) rfl rfl) ?_
  simp only [Act.put, List.setIfInBounds_toArray, List.set_cons_zero, List.set_cons_succ]
  refine wpList_run (v := .bool false) (wanted_none rfl) (gx_assign rfl rfl) ?_
  simp only [Act.put, List.setIfInBounds_toArray, List.set_cons_zero, List.set_cons_succ]
  go_upto_region 7 with fail
  refine wp_region_lit ?_
  refine wpList_run (v := .slice none 0 0) (wanted_none rfl) (gx_assign rfl rfl) ?_
  simp only [Act.put, List.setIfInBounds_toArray, List.set_cons_zero, List.set_cons_succ]
  go_upto_region 8 with fail
  refine wp_region_lit ?_
  refine wpList_run (v := .int .i64 0) (wanted_none rfl) (gx_assign rfl rfl) ?_
  simp only [Act.put, List.setIfInBounds_toArray, List.set_cons_zero, List.set_cons_succ]
  go_wp2_with fail
  go_loopg [5, 6] n (fun gk lv jv wr => ∃ (j : Nat) (rows' : List (Value × List Value)) (A' : Option Addr) (c' : Nat) (ls : List (WtR × Value)), jv = .int .i64 (j : Int) ∧ lv = .slice A' ls.length c' ∧ j + gk = n ∧ RAtX wr q Z { a.tick with ds := a.ds.set i (e.1, layR (a.R.take j) i e.2) } (.slice A m c) (.slice (some ⟨hvb, 0, none⟩) m hc) (.slice Aw n cw) zs rows' ws ∧ (∀ b, RG q rows' (.slice Aw n cw) b ↔ RG q rows (.slice Aw n cw) b) ∧ Orw wr w.heap.size 72 3 (.slice A' ls.length c') (ls.map wrow) ∧ ls = (ws.take j).filter (fun x => !decide (x.1.1 = i)) ∧ Turn (RG q rows (.slice Aw n cw)) w wr)
  case atStart => exact ⟨0, rows, none, 0, [], rfl, rfl, by omega, HX3.out, fun b => Iff.rfl, Orw.nil _ _ _ _, rfl, HT3.out⟩
  obtain ⟨j, rows', A', c', ls, rfl, rfl, hgk, hxr, hrg, hol, hls, htr⟩ := hrel
  obtain ⟨nl, hnl⟩ : ∃ x, x = ls.length := ⟨_, rfl⟩
  rw [← hnl] at hol
  try rw [← hnl]
  have HGK := Lib.hid hgk
  have HXR := Lib.hid hxr
  have HRG := Lib.hid hrg
  have HOL := Lib.hid hol
  have HLS := Lib.hid hls
  have HTR := Lib.hid htr
  have HNL := Lib.hid hnl
  have HBR := Lib.hid (show Blk wr q 49 (refCells (.slice A m c) (.slice (some ⟨hvb, 0, none⟩) m hc) (.slice Aw n cw) a.off a.burns a.tick.left a.tick.done) from hxr.blk)
  have HNN := Lib.hid (show nl ≤ n from by rw [hnl, hls]; have h1 := List.length_filter_le (fun x : WtR × Value => !decide (x.1.1 = i)) (ws.take j); rw [List.length_take] at h1; have := HN.out; omega)
  have yj : (j : Int) ≤ (n : Int) := by omega
  clear hgk hxr hrg hol hls htr hnl
  by_cases hlt : j < n
  · have HLT := Lib.hid hlt
    have y3 : (j : Int) < (n : Int) := by omega
    obtain ⟨y, hy⟩ := getQ' (l := ws) (i := j) (by have := HN.out; omega)
    have HY := Lib.hid hy
    have HYR := Lib.hid (show a.R[j]? = some y.1 from by rw [← HX.out.wr, List.getElem?_map, hy]; rfl)
    obtain ⟨bw, cw2, e2, _, _⟩ := HXR.out.wts.some_ (by rw [List.length_map]; have := HN.out; omega)
    injection e2 with e2 e3 e4
    clear e3 e4
    subst e2
    have HEL := Lib.hid (show wr.rangeAt bw (0 + j * 3) (wrow y) from HXR.out.wts.el0 (i := j) (r := wrow y) (by rw [List.getElem?_map, hy]; rfl))
    have HC0 := Lib.hid (show wr.cell? ⟨bw, 0 + j * 3 + 0, none⟩ = some (.int .i64 (y.1.1 : Int)) from HEL.out 0 _ rfl)
    have HC1 := Lib.hid (show wr.cell? ⟨bw, 0 + j * 3 + 1, none⟩ = some (.int .i64 y.1.2.1) from HEL.out 1 _ rfl)
    have HC2 := Lib.hid (show wr.cell? ⟨bw, 0 + j * 3 + 2, none⟩ = some y.2 from HEL.out 2 _ rfl)
    have HSZ := Lib.hid (HXR.out.wsec y (List.mem_of_getElem? hy))
    clear hy hlt
    go_upto_region 9 with fail
    refine wp_region_lit ?_
    refine wpList_run (v := .int .i64 (j : Int)) (wanted_none rfl) (exec_move rfl rfl) ?_
    simp only [Act.put, List.setIfInBounds_toArray, List.set_cons_zero, List.set_cons_succ]
    refine wpList_run (v := .pointer (some ⟨q, 0, none⟩)) (wanted_none rfl) (exec_move rfl rfl) ?_
    simp only [Act.put, List.setIfInBounds_toArray, List.set_cons_zero, List.set_cons_succ]
    refine wpList_run (v := .pointer (some ⟨q, 0, none⟩)) (wanted_none rfl) (exec_nil rfl rfl) ?_
    simp only [Act.put, List.setIfInBounds_toArray, List.set_cons_zero, List.set_cons_succ]
    refine wpList_run (v := .pointer (some ⟨q, 2, none⟩)) (wanted_none rfl) (exec_field (off := 0) (d := 2) rfl rfl (by kernel_rfl)) ?_
    simp only [Act.put, List.setIfInBounds_toArray, List.set_cons_zero, List.set_cons_succ]
    refine wpList_run (v := .slice (some ⟨bw, 0, none⟩) n cw) (wanted_none rfl) (exec_load1 rfl rfl (by kernel_rfl) (HBR.out.cell 2)) ?_
    simp only [Act.put, List.setIfInBounds_toArray, List.set_cons_zero, List.set_cons_succ]
    refine wpList_run (v := .int .i64 (n : Int)) (wanted_none rfl) (gx_len rfl rfl Try.underlying47) ?_
    simp only [Act.put, List.setIfInBounds_toArray, List.set_cons_zero, List.set_cons_succ]
    refine wpList_run (v := .bool true) (wanted_none rfl) (ix_lss rfl rfl rfl (decide_eq_true y3)) ?_
    simp only [Act.put, List.setIfInBounds_toArray, List.set_cons_zero, List.set_cons_succ]
    by_cases hdv : y.1.1 = i
    · have HDV := Lib.hid hdv
      have HDI := Lib.hid (show (y.1.1 : Int) = (i : Int) from by rw [hdv])
      clear hdv
      go_upto_region 11 with fail
      refine wp_region_lit ?_
      refine wpList_run (v := .pointer (some ⟨q, 0, none⟩)) (wanted_none rfl) (exec_move rfl rfl) ?_
      simp only [Act.put, List.setIfInBounds_toArray, List.set_cons_zero, List.set_cons_succ]
      refine wpList_run (v := .pointer (some ⟨q, 0, none⟩)) (wanted_none rfl) (exec_nil rfl rfl) ?_
      simp only [Act.put, List.setIfInBounds_toArray, List.set_cons_zero, List.set_cons_succ]
      refine wpList_run (v := .pointer (some ⟨q, 2, none⟩)) (wanted_none rfl) (exec_field (off := 0) (d := 2) rfl rfl (by kernel_rfl)) ?_
      simp only [Act.put, List.setIfInBounds_toArray, List.set_cons_zero, List.set_cons_succ]
      refine wpList_run (v := .slice (some ⟨bw, 0, none⟩) n cw) (wanted_none rfl) (exec_load1 rfl rfl (by kernel_rfl) (HBR.out.cell 2)) ?_
      simp only [Act.put, List.setIfInBounds_toArray, List.set_cons_zero, List.set_cons_succ]
      refine wpList_run (v := .int .i64 (j : Int)) (wanted_none rfl) (exec_move rfl rfl) ?_
      simp only [Act.put, List.setIfInBounds_toArray, List.set_cons_zero, List.set_cons_succ]
      refine wpList_run (v := .pointer (some ⟨bw, 0 + j * 3, none⟩)) (wanted_none rfl) (gx_iaddr (i := j) (sz := 3) rfl rfl rfl Try.underlying47 size_wait HLT.out rfl) ?_
      simp only [Act.put, List.setIfInBounds_toArray, List.set_cons_zero, List.set_cons_succ]
      refine wpList_run (v := .pointer (some ⟨bw, 0 + j * 3 + 0, none⟩)) (wanted_none rfl) (exec_field (off := 0 + j * 3) (d := 0) rfl rfl (by kernel_rfl)) ?_
      simp only [Act.put, List.setIfInBounds_toArray, List.set_cons_zero, List.set_cons_succ]
      refine wpList_run (v := .int .i64 (y.1.1 : Int)) (wanted_none rfl) (exec_load1 rfl rfl (by kernel_rfl) HC0.out) ?_
      simp only [Act.put, List.setIfInBounds_toArray, List.set_cons_zero, List.set_cons_succ]
      refine wpList_run (v := .int .i64 (i : Int)) (wanted_none rfl) (exec_move rfl rfl) ?_
      simp only [Act.put, List.setIfInBounds_toArray, List.set_cons_zero, List.set_cons_succ]
      refine wpList_run (v := .bool true) (wanted_none rfl) (ix_eql rfl rfl rfl (decide_eq_true HDI.out)) ?_
      simp only [Act.put, List.setIfInBounds_toArray, List.set_cons_zero, List.set_cons_succ]
      obtain ⟨f, hf, hp0, hp1⟩ := HX.out.wok y.1 (List.mem_of_getElem? HYR.out)
      rw [HDV.out, HE.out] at hf
      injection hf with hf
      subst hf
      obtain ⟨k, hk⟩ : ∃ k : Nat, (k : Int) = y.1.2.1 := ⟨y.1.2.1.toNat, by omega⟩
      have HK := Lib.hid hk
      have HKE := Lib.hid (show k < e.1 from by omega)
      have hej : (a.ds.set i (e.1, layR (a.R.take j) i e.2))[i]? = some (e.1, layR (a.R.take j) i e.2) := List.getElem?_set_self (List.getElem?_eq_some_iff.1 HE.out).1
      obtain ⟨r, g, cg, cur, hr, hr1, hcell, hbg, hgs, hgg⟩ := HXR.out.hrow (i := i) (e := (e.1, layR (a.R.take j) i e.2)) hej
      have HEJ := Lib.hid hej
      have HR_ := Lib.hid hr
      have HR1 := Lib.hid hr1
      have HCL := Lib.hid hcell
      have HBG := Lib.hid hbg
      have HGS := Lib.hid hgs
      have HGG := Lib.hid hgg
      have HC1k := Lib.hid (show wr.cell? ⟨bw, 0 + j * 3 + 1, none⟩ = some (.int .i64 (k : Int)) from by rw [hk]; exact HC1.out)
      clear hp0 hp1 hk hej hr hr1 hcell hbg hgs hgg
      obtain ⟨wd, hwd⟩ : ∃ v, v = wr.drew := ⟨_, rfl⟩
      have htd : Turn nowhere wr wd := by rw [hwd]; exact (Turn.refl _ _).drew
      have HXD := Lib.hid (HXR.out.off htd (fun _ _ e => e) fun _ _ _ e => e)
      have HBGD := Lib.hid (HBG.out.turn htd fun e => e)
      have HOLD := Lib.hid (HOL.out.still htd)
      have HTRD := Lib.hid (HTR.out.trans htd fun _ _ e => e.elim)
      have HSZD := Lib.hid (HSZ.out.turn htd fun _ _ _ e => e)
      go_upto_region 12 with fail
      refine wp_region_till (fun W => Blk W q 49 (refCells (.slice A m c) (.slice (some ⟨hvb, 0, none⟩) m hc) (.slice (some ⟨bw, 0, none⟩) n cw) a.off a.burns a.tick.left a.tick.done) ∧ W.cell? ⟨hvb, 0 + i * 1, none⟩ = some (.slice (some ⟨g, 0, none⟩) e.1 cg) ∧ W.cell? ⟨bw, 0 + j * 3 + 1, none⟩ = some (.int .i64 (k : Int)) ∧ W.cell? ⟨bw, 0 + j * 3 + 2, none⟩ = some y.2) 24 (by kernel_rfl) ?_
      rw [← hwd]
      have hS0 : Blk wd q 49 (refCells (.slice A m c) (.slice (some ⟨hvb, 0, none⟩) m hc) (.slice (some ⟨bw, 0, none⟩) n cw) a.off a.burns a.tick.left a.tick.done) ∧ wd.cell? ⟨hvb, 0 + i * 1, none⟩ = some (.slice (some ⟨g, 0, none⟩) e.1 cg) ∧ wd.cell? ⟨bw, 0 + j * 3 + 1, none⟩ = some (.int .i64 (k : Int)) ∧ wd.cell? ⟨bw, 0 + j * 3 + 2, none⟩ = some y.2 := ⟨HBR.out.turn htd fun e => e, (htd.cell (World.block_lt_of_cell? _ _ HCL.out) fun e => e).trans HCL.out, (htd.cell (World.block_lt_of_cell? _ _ HC1k.out) fun e => e).trans HC1k.out, (htd.cell (World.block_lt_of_cell? _ _ HC2.out) fun e => e).trans HC2.out⟩
      clear hwd
      refine till_take (i := 0) (v := .pointer (some ⟨q, 0, none⟩)) rfl (by kernel_rfl) (by kernel_rfl) (fun _ _ _ h => h) (.inl ⟨by rfl, fun W hW => exec_move rfl rfl⟩) hS0 ?_
      simp only [Act.put, List.setIfInBounds_toArray, List.set_cons_zero, List.set_cons_succ]
      refine till_take (i := 1) (v := .pointer (some ⟨q, 0, none⟩)) rfl (by kernel_rfl) (by kernel_rfl) (fun _ _ _ h => h) (.inl ⟨by rfl, fun W hW => exec_nil rfl rfl⟩) hS0 ?_
      simp only [Act.put, List.setIfInBounds_toArray, List.set_cons_zero, List.set_cons_succ]
      refine till_take (i := 2) (v := .pointer (some ⟨q, 1, none⟩)) rfl (by kernel_rfl) (by kernel_rfl) (fun _ _ _ h => h) (.inl ⟨by rfl, fun W hW => exec_field (off := 0) (d := 1) rfl rfl (by kernel_rfl)⟩) hS0 ?_
      simp only [Act.put, List.setIfInBounds_toArray, List.set_cons_zero, List.set_cons_succ]
      refine till_take (i := 3) (v := .slice (some ⟨hvb, 0, none⟩) m hc) rfl (by kernel_rfl) (by kernel_rfl) (fun _ _ _ h => h) (.inl ⟨by rfl, fun W hW => exec_load1 rfl rfl (by kernel_rfl) (hW.1.cell 1)⟩) hS0 ?_
      simp only [Act.put, List.setIfInBounds_toArray, List.set_cons_zero, List.set_cons_succ]
      refine till_take (i := 4) (v := .int .i64 (i : Int)) rfl (by kernel_rfl) (by kernel_rfl) (fun _ _ _ h => h) (.inl ⟨by rfl, fun W hW => exec_move rfl rfl⟩) hS0 ?_
      simp only [Act.put, List.setIfInBounds_toArray, List.set_cons_zero, List.set_cons_succ]
      refine till_take (i := 5) (v := .pointer (some ⟨hvb, 0 + i * 1, none⟩)) rfl (by kernel_rfl) (by kernel_rfl) (fun _ _ _ h => h) (.inl ⟨by rfl, fun W hW => gx_iaddr (i := i) (sz := 1) rfl rfl rfl Try.underlying46 size_rowsR HI.out rfl⟩) hS0 ?_
      simp only [Act.put, List.setIfInBounds_toArray, List.set_cons_zero, List.set_cons_succ]
      refine till_take (i := 6) (v := .slice (some ⟨g, 0, none⟩) e.1 cg) rfl (by kernel_rfl) (by kernel_rfl) (fun _ _ _ h => h) (.inl ⟨by rfl, fun W hW => exec_load1 rfl rfl (by kernel_rfl) hW.2.1⟩) hS0 ?_
      simp only [Act.put, List.setIfInBounds_toArray, List.set_cons_zero, List.set_cons_succ]
      refine till_take (i := 7) (v := .pointer (some ⟨q, 0, none⟩)) rfl (by kernel_rfl) (by kernel_rfl) (fun _ _ _ h => h) (.inl ⟨by rfl, fun W hW => exec_move rfl rfl⟩) hS0 ?_
      simp only [Act.put, List.setIfInBounds_toArray, List.set_cons_zero, List.set_cons_succ]
      refine till_take (i := 8) (v := .pointer (some ⟨q, 0, none⟩)) rfl (by kernel_rfl) (by kernel_rfl) (fun _ _ _ h => h) (.inl ⟨by rfl, fun W hW => exec_nil rfl rfl⟩) hS0 ?_
      simp only [Act.put, List.setIfInBounds_toArray, List.set_cons_zero, List.set_cons_succ]
      refine till_take (i := 9) (v := .pointer (some ⟨q, 2, none⟩)) rfl (by kernel_rfl) (by kernel_rfl) (fun _ _ _ h => h) (.inl ⟨by rfl, fun W hW => exec_field (off := 0) (d := 2) rfl rfl (by kernel_rfl)⟩) hS0 ?_
      simp only [Act.put, List.setIfInBounds_toArray, List.set_cons_zero, List.set_cons_succ]
      refine till_take (i := 10) (v := .slice (some ⟨bw, 0, none⟩) n cw) rfl (by kernel_rfl) (by kernel_rfl) (fun _ _ _ h => h) (.inl ⟨by rfl, fun W hW => exec_load1 rfl rfl (by kernel_rfl) (hW.1.cell 2)⟩) hS0 ?_
      simp only [Act.put, List.setIfInBounds_toArray, List.set_cons_zero, List.set_cons_succ]
      refine till_take (i := 11) (v := .int .i64 (j : Int)) rfl (by kernel_rfl) (by kernel_rfl) (fun _ _ _ h => h) (.inl ⟨by rfl, fun W hW => exec_move rfl rfl⟩) hS0 ?_
      simp only [Act.put, List.setIfInBounds_toArray, List.set_cons_zero, List.set_cons_succ]
      refine till_take (i := 12) (v := .pointer (some ⟨bw, 0 + j * 3, none⟩)) rfl (by kernel_rfl) (by kernel_rfl) (fun _ _ _ h => h) (.inl ⟨by rfl, fun W hW => gx_iaddr (i := j) (sz := 3) rfl rfl rfl Try.underlying47 size_wait HLT.out rfl⟩) hS0 ?_
      simp only [Act.put, List.setIfInBounds_toArray, List.set_cons_zero, List.set_cons_succ]
      refine till_take (i := 13) (v := .pointer (some ⟨bw, 0 + j * 3 + 1, none⟩)) rfl (by kernel_rfl) (by kernel_rfl) (fun _ _ _ h => h) (.inl ⟨by rfl, fun W hW => exec_field (off := 0 + j * 3) (d := 1) rfl rfl (by kernel_rfl)⟩) hS0 ?_
      simp only [Act.put, List.setIfInBounds_toArray, List.set_cons_zero, List.set_cons_succ]
      refine till_take (i := 14) (v := .int .i64 (k : Int)) rfl (by kernel_rfl) (by kernel_rfl) (fun _ _ _ h => h) (.inl ⟨by rfl, fun W hW => exec_load1 rfl rfl (by kernel_rfl) hW.2.2.1⟩) hS0 ?_
      simp only [Act.put, List.setIfInBounds_toArray, List.set_cons_zero, List.set_cons_succ]
      refine till_take (i := 15) (v := .pointer (some ⟨q, 0, none⟩)) rfl (by kernel_rfl) (by kernel_rfl) (fun _ _ _ h => h) (.inl ⟨by rfl, fun W hW => exec_move rfl rfl⟩) hS0 ?_
      simp only [Act.put, List.setIfInBounds_toArray, List.set_cons_zero, List.set_cons_succ]
      refine till_take (i := 16) (v := .pointer (some ⟨q, 0, none⟩)) rfl (by kernel_rfl) (by kernel_rfl) (fun _ _ _ h => h) (.inl ⟨by rfl, fun W hW => exec_nil rfl rfl⟩) hS0 ?_
      simp only [Act.put, List.setIfInBounds_toArray, List.set_cons_zero, List.set_cons_succ]
      refine till_take (i := 17) (v := .pointer (some ⟨q, 2, none⟩)) rfl (by kernel_rfl) (by kernel_rfl) (fun _ _ _ h => h) (.inl ⟨by rfl, fun W hW => exec_field (off := 0) (d := 2) rfl rfl (by kernel_rfl)⟩) hS0 ?_
      simp only [Act.put, List.setIfInBounds_toArray, List.set_cons_zero, List.set_cons_succ]
      refine till_take (i := 18) (v := .slice (some ⟨bw, 0, none⟩) n cw) rfl (by kernel_rfl) (by kernel_rfl) (fun _ _ _ h => h) (.inl ⟨by rfl, fun W hW => exec_load1 rfl rfl (by kernel_rfl) (hW.1.cell 2)⟩) hS0 ?_
      simp only [Act.put, List.setIfInBounds_toArray, List.set_cons_zero, List.set_cons_succ]
      refine till_take (i := 19) (v := .int .i64 (j : Int)) rfl (by kernel_rfl) (by kernel_rfl) (fun _ _ _ h => h) (.inl ⟨by rfl, fun W hW => exec_move rfl rfl⟩) hS0 ?_
      simp only [Act.put, List.setIfInBounds_toArray, List.set_cons_zero, List.set_cons_succ]
      refine till_take (i := 20) (v := .pointer (some ⟨bw, 0 + j * 3, none⟩)) rfl (by kernel_rfl) (by kernel_rfl) (fun _ _ _ h => h) (.inl ⟨by rfl, fun W hW => gx_iaddr (i := j) (sz := 3) rfl rfl rfl Try.underlying47 size_wait HLT.out rfl⟩) hS0 ?_
      simp only [Act.put, List.setIfInBounds_toArray, List.set_cons_zero, List.set_cons_succ]
      refine till_take (i := 21) (v := .pointer (some ⟨bw, 0 + j * 3 + 2, none⟩)) rfl (by kernel_rfl) (by kernel_rfl) (fun _ _ _ h => h) (.inl ⟨by rfl, fun W hW => exec_field (off := 0 + j * 3) (d := 2) rfl rfl (by kernel_rfl)⟩) hS0 ?_
      simp only [Act.put, List.setIfInBounds_toArray, List.set_cons_zero, List.set_cons_succ]
      refine till_take (i := 22) (v := y.2) rfl (by kernel_rfl) (by kernel_rfl) (fun _ _ _ h => h) (.inl ⟨by rfl, fun W hW => exec_load1 rfl rfl (by kernel_rfl) hW.2.2.2⟩) hS0 ?_
      simp only [Act.put, List.setIfInBounds_toArray, List.set_cons_zero, List.set_cons_succ]
      refine till_take (i := 23) (v := .pointer (some ⟨g, 0 + k * 1, none⟩)) rfl (by kernel_rfl) (by kernel_rfl) (fun _ _ _ h => h) (.inl ⟨by rfl, fun W hW => gx_iaddr (i := k) (sz := 1) rfl rfl rfl Try.underlying60 size_bsR HKE.out rfl⟩) hS0 ?_
      simp only [Act.put, List.setIfInBounds_toArray, List.set_cons_zero, List.set_cons_succ]
      refine till_tail 24 rfl (by kernel_rfl) ?_
      refine wpList_storeU (0 + k * 1) y.2 (wanted_none rfl) 36 _ _ rfl HBGD.out rfl rfl (by have := HKE.out; have := HGS.out; omega) ⟨HSZD.out.one.2, HSZD.out.one.1⟩ size_bsR ?_
      intro w5 hb5 ht5
      simp only [Act.put, List.setIfInBounds_toArray, List.set_cons_zero, List.set_cons_succ]
      refine NoPanic.normal ?_
      clear hS0 htd
      have hb5' : Blk w5 g 36 (cur.setIfInBounds k y.2) := by rw [show 0 + k * 1 = k by omega] at hb5; exact hb5
      have hx5 := HXD.out.setSec (k := k) (s := y.1.2.2) HEJ.out HR_.out HR1.out HBGD.out hb5' ht5 HKE.out HSZD.out
      have HX5 := Lib.hid (show RAtX w5 q Z { a.tick with ds := a.ds.set i (e.1, layR (a.R.take (j + 1)) i e.2) } (.slice A m c) (.slice (some ⟨hvb, 0, none⟩) m hc) (.slice (some ⟨bw, 0, none⟩) n cw) zs (rows'.set i (r.1, r.2.set k y.2)) ws from by
        have e9 : (e.1, upd (layR (a.R.take j) i e.2) (k : Int) y.1.2.2) = (e.1, layR (a.R.take (j + 1)) i e.2) := by
          rw [layR_take HYR.out, if_pos HDV.out, HK.out]
        rw [← e9, ← set_set' a.ds i (e.1, layR (a.R.take j) i e.2)]
        exact hx5)
      have HRG5 := Lib.hid (show ∀ b, RG q (rows'.set i (r.1, r.2.set k y.2)) (.slice (some ⟨bw, 0, none⟩) n cw) b ↔ RG q rows (.slice (some ⟨bw, 0, none⟩) n cw) b from fun b => (rg_set HR_.out b).trans (HRG.out b))
      have HOL5 := Lib.hid (HOLD.out.turn ht5 fun b hb e => by
        obtain ⟨cu, hcu⟩ := HOLD.out.own_blk hb
        exact hcu.notOnly HBGD.out (by decide) e)
      have HTR5 := Lib.hid (HTRD.out.trans ht5 fun b _ e => (HRG.out b).1 (by rw [show b = g from e]; exact HGG.out))
      have HLS5 := Lib.hid (show ls = (ws.take (j + 1)).filter (fun x => !decide (x.1.1 = i)) from by rw [filt_take HY.out, if_pos HDV.out, List.append_nil]; exact HLS.out)
      clear hb5 hb5' hx5 ht5
      go_upto_region 10 with fail
      refine wp_region_lit ?_
      refine wpList_run (v := .int .i64 (j : Int)) (wanted_none rfl) (exec_move rfl rfl) ?_
      simp only [Act.put, List.setIfInBounds_toArray, List.set_cons_zero, List.set_cons_succ]
      refine wpList_run (v := .int .i64 ((j + 1 : Nat) : Int)) (wanted_none rfl) (ix_add rfl rfl rfl (by omega) (by omega)) ?_
      simp only [Act.put, List.setIfInBounds_toArray, List.set_cons_zero, List.set_cons_succ]
      refine wpList_run (v := .int .i64 ((j + 1 : Nat) : Int)) (wanted_none rfl) (gx_assign rfl rfl) ?_
      simp only [Act.put, List.setIfInBounds_toArray, List.set_cons_zero, List.set_cons_succ]
      go_wp2_with fail
      go_roundg (n - (j + 1))
      case measure => have := HGK.out; have := HLT.out; omega
      case rel => exact ⟨j + 1, _, A', c', ls, rfl, by rw [← HNL.out], by have := HLT.out; omega, HX5.out, HRG5.out, by rw [← HNL.out]; exact HOL5.out, HLS5.out, HTR5.out⟩
    · have HDV := Lib.hid hdv
      have HDI := Lib.hid (show ¬ (y.1.1 : Int) = (i : Int) from by omega)
      clear hdv
      go_upto_region 11 with fail
      refine wp_region_lit ?_
      refine wpList_run (v := .pointer (some ⟨q, 0, none⟩)) (wanted_none rfl) (exec_move rfl rfl) ?_
      simp only [Act.put, List.setIfInBounds_toArray, List.set_cons_zero, List.set_cons_succ]
      refine wpList_run (v := .pointer (some ⟨q, 0, none⟩)) (wanted_none rfl) (exec_nil rfl rfl) ?_
      simp only [Act.put, List.setIfInBounds_toArray, List.set_cons_zero, List.set_cons_succ]
      refine wpList_run (v := .pointer (some ⟨q, 2, none⟩)) (wanted_none rfl) (exec_field (off := 0) (d := 2) rfl rfl (by kernel_rfl)) ?_
      simp only [Act.put, List.setIfInBounds_toArray, List.set_cons_zero, List.set_cons_succ]
      refine wpList_run (v := .slice (some ⟨bw, 0, none⟩) n cw) (wanted_none rfl) (exec_load1 rfl rfl (by kernel_rfl) (HBR.out.cell 2)) ?_
      simp only [Act.put, List.setIfInBounds_toArray, List.set_cons_zero, List.set_cons_succ]
      refine wpList_run (v := .int .i64 (j : Int)) (wanted_none rfl) (exec_move rfl rfl) ?_
      simp only [Act.put, List.setIfInBounds_toArray, List.set_cons_zero, List.set_cons_succ]
      refine wpList_run (v := .pointer (some ⟨bw, 0 + j * 3, none⟩)) (wanted_none rfl) (gx_iaddr (i := j) (sz := 3) rfl rfl rfl Try.underlying47 size_wait HLT.out rfl) ?_
      simp only [Act.put, List.setIfInBounds_toArray, List.set_cons_zero, List.set_cons_succ]
      refine wpList_run (v := .pointer (some ⟨bw, 0 + j * 3 + 0, none⟩)) (wanted_none rfl) (exec_field (off := 0 + j * 3) (d := 0) rfl rfl (by kernel_rfl)) ?_
      simp only [Act.put, List.setIfInBounds_toArray, List.set_cons_zero, List.set_cons_succ]
      refine wpList_run (v := .int .i64 (y.1.1 : Int)) (wanted_none rfl) (exec_load1 rfl rfl (by kernel_rfl) HC0.out) ?_
      simp only [Act.put, List.setIfInBounds_toArray, List.set_cons_zero, List.set_cons_succ]
      refine wpList_run (v := .int .i64 (i : Int)) (wanted_none rfl) (exec_move rfl rfl) ?_
      simp only [Act.put, List.setIfInBounds_toArray, List.set_cons_zero, List.set_cons_succ]
      refine wpList_run (v := .bool false) (wanted_none rfl) (ix_eql rfl rfl rfl (decide_eq_false HDI.out)) ?_
      simp only [Act.put, List.setIfInBounds_toArray, List.set_cons_zero, List.set_cons_succ]
      have hta := (Turn.refl nowhere wr).alloc (.cells (wrow y).toArray 72)
      obtain ⟨A8, c8, w8, hrun, ho8, hg8, _⟩ := orw_grow elmW (ty := 47) (news := [wrow y]) (A := some ⟨wr.heap.size, 0, none⟩) (m := 1) (c := 1) (HOL.out.still hta) (Nat.le_trans HTR.out.size hta.size) (rws_one (et := 72) (r := wrow y) rfl fun _ => trivial) (Fit.one rfl (wrow_one y HSZ.out.one.1)) (fun e => by cases e) (by rw [List.length_map, ← HNL.out]; have := HNN.out; omega)
      rw [List.length_map, ← HNL.out] at hrun ho8
      have ht8 : Turn (fun b => (Value.slice A' nl c').ownBlock = some b) wr w8 := (hta.mono fun _ _ e => e.elim).grown hg8 fun b e _ => e
      have HNEW := Lib.hid (fun b (hb : (Value.slice A' nl c').ownBlock = some b) => HOL.out.lt hb)
      have hx8 := HXR.out.off ht8 (fun b hb e => by have h1 := HL0.out b ((HRG.out b).1 hb); have h2 := (HNEW.out b e).1; omega) (fun b _ hf e => by
        obtain ⟨cu, hcu⟩ := HOL.out.own_blk e
        obtain ⟨t, cs, h1, h2⟩ := hf
        have e9 := blk_ty h1 hcu
        subst e9
        revert h2
        decide)
      have HX8 := Lib.hid (show RAtX w8 q Z { a.tick with ds := a.ds.set i (e.1, layR (a.R.take (j + 1)) i e.2) } (.slice A m c) (.slice (some ⟨hvb, 0, none⟩) m hc) (.slice (some ⟨bw, 0, none⟩) n cw) zs rows' ws from by
        rw [layR_take HYR.out, if_neg HDV.out]
        exact hx8)
      have HRUN := Lib.hid hrun
      have HO8 := Lib.hid (show Orw w8 w.heap.size 72 3 (.slice A8 (nl + 1) c8) ((ls ++ [y]).map wrow) from by rw [List.map_append]; exact ho8)
      have HT8 := Lib.hid (HTR.out.trans ht8 fun b hb e => by have := (HNEW.out b e).1; omega)
      have HLS8 := Lib.hid (show ls ++ [y] = (ws.take (j + 1)).filter (fun x => !decide (x.1.1 = i)) from by rw [filt_take HY.out, if_neg HDV.out, ← HLS.out])
      have HBO := Lib.hid (build_one elmW (wrow y) rfl (by decide) (.agg (wrow y).toArray) rfl wr)
      clear hta hrun ho8 hg8 ht8 hx8
      go_upto_region 13 with fail
      refine wp_region_lit ?_
      refine wpList_run (v := (.slice A' nl c')) (wanted_none rfl) (exec_move rfl rfl) ?_
      simp only [Act.put, List.setIfInBounds_toArray, List.set_cons_zero, List.set_cons_succ]
      refine wpList_run (v := .pointer (some ⟨q, 0, none⟩)) (wanted_none rfl) (exec_move rfl rfl) ?_
      simp only [Act.put, List.setIfInBounds_toArray, List.set_cons_zero, List.set_cons_succ]
      refine wpList_run (v := .pointer (some ⟨q, 0, none⟩)) (wanted_none rfl) (exec_nil rfl rfl) ?_
      simp only [Act.put, List.setIfInBounds_toArray, List.set_cons_zero, List.set_cons_succ]
      refine wpList_run (v := .pointer (some ⟨q, 2, none⟩)) (wanted_none rfl) (exec_field (off := 0) (d := 2) rfl rfl (by kernel_rfl)) ?_
      simp only [Act.put, List.setIfInBounds_toArray, List.set_cons_zero, List.set_cons_succ]
      refine wpList_run (v := .slice (some ⟨bw, 0, none⟩) n cw) (wanted_none rfl) (exec_load1 rfl rfl (by kernel_rfl) (HBR.out.cell 2)) ?_
      simp only [Act.put, List.setIfInBounds_toArray, List.set_cons_zero, List.set_cons_succ]
      refine wpList_run (v := .int .i64 (j : Int)) (wanted_none rfl) (exec_move rfl rfl) ?_
      simp only [Act.put, List.setIfInBounds_toArray, List.set_cons_zero, List.set_cons_succ]
      refine wpList_run (v := .pointer (some ⟨bw, 0 + j * 3, none⟩)) (wanted_none rfl) (gx_iaddr (i := j) (sz := 3) rfl rfl rfl Try.underlying47 size_wait HLT.out rfl) ?_
      simp only [Act.put, List.setIfInBounds_toArray, List.set_cons_zero, List.set_cons_succ]
      refine wpList_run (v := .agg (wrow y).toArray) (wanted_none rfl) (gx_loads rfl rfl HEL.out Try.underlying72 rfl (by rw [size_wait]; rfl)) ?_
      simp only [Act.put, List.setIfInBounds_toArray, List.set_cons_zero, List.set_cons_succ]
      refine wpList_run (v := .slice (some ⟨wr.heap.size, 0, none⟩) 1 1) (w' := wr.alloc (.cells (wrow y).toArray 72)) (wanted_none rfl) (exec_buildSlice1 rfl rfl HBO.out) ?_
      simp only [Act.put, List.setIfInBounds_toArray, List.set_cons_zero, List.set_cons_succ]
      refine wpList_run (v := .slice A8 (nl + 1) c8) (w' := w8) (wanted_none rfl) (exec_append rfl rfl rfl HRUN.out) ?_
      simp only [Act.put, List.setIfInBounds_toArray, List.set_cons_zero, List.set_cons_succ]
      refine wpList_run (v := .slice A8 (nl + 1) c8) (wanted_none rfl) (gx_assign rfl rfl) ?_
      simp only [Act.put, List.setIfInBounds_toArray, List.set_cons_zero, List.set_cons_succ]
      go_upto_region 10 with fail
      refine wp_region_lit ?_
      refine wpList_run (v := .int .i64 (j : Int)) (wanted_none rfl) (exec_move rfl rfl) ?_
      simp only [Act.put, List.setIfInBounds_toArray, List.set_cons_zero, List.set_cons_succ]
      refine wpList_run (v := .int .i64 ((j + 1 : Nat) : Int)) (wanted_none rfl) (ix_add rfl rfl rfl (by omega) (by omega)) ?_
      simp only [Act.put, List.setIfInBounds_toArray, List.set_cons_zero, List.set_cons_succ]
      refine wpList_run (v := .int .i64 ((j + 1 : Nat) : Int)) (wanted_none rfl) (gx_assign rfl rfl) ?_
      simp only [Act.put, List.setIfInBounds_toArray, List.set_cons_zero, List.set_cons_succ]
      go_wp2_with fail
      go_roundg (n - (j + 1))
      case measure => have := HGK.out; have := HLT.out; omega
      case rel => exact ⟨j + 1, rows', A8, c8, ls ++ [y], rfl, by rw [List.length_append, ← HNL.out]; rfl, by have := HLT.out; omega, HX8.out, HRG.out, by rw [List.length_append, ← HNL.out]; exact HO8.out, HLS8.out, HT8.out⟩
  · obtain rfl : n = j := by have := HGK.out; omega
    clear hlt
    go_upto_region 9 with fail
    refine wp_region_lit ?_
    refine wpList_run (v := .int .i64 (n : Int)) (wanted_none rfl) (exec_move rfl rfl) ?_
    simp only [Act.put, List.setIfInBounds_toArray, List.set_cons_zero, List.set_cons_succ]
    refine wpList_run (v := .pointer (some ⟨q, 0, none⟩)) (wanted_none rfl) (exec_move rfl rfl) ?_
    simp only [Act.put, List.setIfInBounds_toArray, List.set_cons_zero, List.set_cons_succ]
    refine wpList_run (v := .pointer (some ⟨q, 0, none⟩)) (wanted_none rfl) (exec_nil rfl rfl) ?_
    simp only [Act.put, List.setIfInBounds_toArray, List.set_cons_zero, List.set_cons_succ]
    refine wpList_run (v := .pointer (some ⟨q, 2, none⟩)) (wanted_none rfl) (exec_field (off := 0) (d := 2) rfl rfl (by kernel_rfl)) ?_
    simp only [Act.put, List.setIfInBounds_toArray, List.set_cons_zero, List.set_cons_succ]
    refine wpList_run (v := .slice Aw n cw) (wanted_none rfl) (exec_load1 rfl rfl (by kernel_rfl) (HBR.out.cell 2)) ?_
    simp only [Act.put, List.setIfInBounds_toArray, List.set_cons_zero, List.set_cons_succ]
    refine wpList_run (v := .int .i64 (n : Int)) (wanted_none rfl) (gx_len rfl rfl Try.underlying47) ?_
    simp only [Act.put, List.setIfInBounds_toArray, List.set_cons_zero, List.set_cons_succ]
    refine wpList_run (v := .bool false) (wanted_none rfl) (ix_lss rfl rfl rfl (decide_eq_false (by omega))) ?_
    simp only [Act.put, List.setIfInBounds_toArray, List.set_cons_zero, List.set_cons_succ]
    go_upto_region 14 with fail
    refine wp_region_lit ?_
    refine wpList_run (v := .pointer (some ⟨q, 0, none⟩)) (wanted_none rfl) (exec_move rfl rfl) ?_
    simp only [Act.put, List.setIfInBounds_toArray, List.set_cons_zero, List.set_cons_succ]
    refine wpList_run (v := (.slice A' nl c')) (wanted_none rfl) (exec_move rfl rfl) ?_
    simp only [Act.put, List.setIfInBounds_toArray, List.set_cons_zero, List.set_cons_succ]
    refine wpList_run (v := .pointer (some ⟨q, 0, none⟩)) (wanted_none rfl) (exec_nil rfl rfl) ?_
    simp only [Act.put, List.setIfInBounds_toArray, List.set_cons_zero, List.set_cons_succ]
    refine wpList_run (v := .pointer (some ⟨q, 2, none⟩)) (wanted_none rfl) (exec_field (off := 0) (d := 2) rfl rfl (by kernel_rfl)) ?_
    simp only [Act.put, List.setIfInBounds_toArray, List.set_cons_zero, List.set_cons_succ]
    refine wpList_storeU 2 (.slice A' nl c') (wanted_none rfl) 47 _ _ rfl HBR.out rfl rfl (by show 2 < 7; omega) (slice_one HOL.out) (by kernel_rfl) ?_
    intro w5 hb5 ht5
    simp only [Act.put, List.setIfInBounds_toArray, List.set_cons_zero, List.set_cons_succ]
    have hfl : ls = ws.filter (fun x => !decide (x.1.1 = i)) := by have h := HLS.out; rw [List.take_of_length_le (by have := HN.out; omega)] at h; exact h
    have hx5 := HXR.out.setW (w' := w5) (wv' := .slice A' nl c') (ws' := ls) (R' := a.R.filter fun x => !decide (x.1 = i)) (off' := a.off) (burns' := a.burns) (left' := a.tick.left) (done' := a.tick.done) hb5 ht5 (HOL.out.less (Nat.zero_le _)) (by rw [hfl, ← HX.out.wr, List.filter_map]; rfl) (fun x hx => by rw [hfl] at hx; exact (List.mem_filter.1 hx).1)
    have HF := Lib.hid (show RTo w q (RG q rows (.slice Aw n cw)) Z (a.flush i) w5 from ⟨RG q rows' (.slice A' nl c'), Z, ⟨_, _, _, _, _, _, (show RAtX w5 q Z (a.flush i) _ _ _ _ rows' ls from by
      unfold RP.flush
      rw [HE.out]
      have h9 : a.R.take n = a.R := List.take_of_length_le (by have := HN.out; omega)
      rw [h9] at hx5
      exact hx5), rfl⟩, fun b hb => by
      rcases hb with hb | hb | hb
      · exact .inl (.inl hb)
      · exact .inl ((HRG.out b).1 (.inr (.inl hb)))
      · exact .inr (HOL.out.lt hb).1, fun b hb => .inl hb, HTR.out.trans ht5 fun b _ e => .inl e⟩)
    clear hb5 ht5 hfl hx5
    go_upto_region 15 with fail
    refine wp_region_lit ?_
    refine wpList_run (v := .int .i64 0) (wanted_none rfl) (gx_assign rfl rfl) ?_
    simp only [Act.put, List.setIfInBounds_toArray, List.set_cons_zero, List.set_cons_succ]
    go_wp2_with fail
    go_ret
    exact ⟨rfl, HF.out⟩
end
end Go.Proofs.Yteedjfgandgbkaa
