/-
  The reference's plant: Clone: the walk. No conditions.
-/
import Derived.Test.YteedjfgandgbkaaPpF
namespace Go.Proofs.Yteedjfgandgbkaa
open Go.RowKit Go.Maps
set_option linter.unusedVariables false
set_option linter.unusedSimpArgs false
theorem zero_rp (w : World) : (zeroValue 49).run Try.prog w = .ok (.agg (refCells (.slice none 0 0) (.slice none 0 0) (.slice none 0 0) false false 0 0)) w := by kernel_rfl
theorem size_rp : (Try.prog.info? 49).map (·.size) = some 7 := by kernel_rfl
theorem build0R (w : World) : (Instr.buildSlice 60 0 #[]).run Try.prog w = .ok (.slice (some ⟨w.heap.size, 0, none⟩) 0 0) (w.alloc (.cells #[] 36)) := by kernel_rfl
theorem build0W (w : World) : (Instr.buildSlice 47 0 #[]).run Try.prog w = .ok (.slice (some ⟨w.heap.size, 0, none⟩) 0 0) (w.alloc (.cells #[] 72)) := by kernel_rfl
theorem one_slice' {w : World} {B k : Nat} {et : TypeId} {v : Value} {rs : List (List Value)} (h : Orw w B et k v rs) : v.oneCell' = true := by
  obtain ⟨A9, c9, rfl, _⟩ := h.form
  rfl
theorem rp_one {w : World} {q : Nat} {Z : Nat → Prop} {a : RP} {mv hv wv : Value} {zs : List Int} {rows : List (Value × List Value)} {ws : List (WtR × Value)} (h : RAtX w q Z a mv hv wv zs rows ws) {o b : Bool} {l d : Int} : ∀ u ∈ (refCells mv hv wv o b l d).toList, u.oneCell' = true := fun u hu => by
  simp only [refCells, List.mem_cons, List.not_mem_nil, or_false] at hu
  rcases hu with rfl | rfl | rfl | rfl | rfl | rfl | rfl
  · exact one_slice' h.most
  · exact one_slice' h.has
  · exact one_slice' h.wts
  all_goals rfl
section
variable {w w' : World} {q : Nat} {G Z : Nat → Prop} {a : RP}
/-- the clone's disks so far -/
structure ClX (w0 wr : World) (rows rows2 : List (Value × List Value)) (hv2 : Value) (i : Nat) : Prop where
  has : Orw wr w0.heap.size 60 1 hv2 (row1 (rows2.map (·.1)))
  len : rows2.length = i
  row : ∀ (j : Nat) (r2 : Value × List Value), rows2[j]? = some r2 → ∃ r, rows[j]? = some r ∧ r2.2 = r.2 ∧ Orw wr w0.heap.size 36 1 r2.1 (row1 r2.2)
  ne : ∀ (j m : Nat) (r r' : Value × List Value) (b : Nat), rows2[j]? = some r → rows2[m]? = some r' → j ≠ m → r.1.ownBlock = some b → r'.1.ownBlock ≠ some b
theorem ClX.turn {w0 wr w' : World} {rows rows2 : List (Value × List Value)} {hv2 : Value} {i : Nat} {F : Nat → Prop} (h : ClX w0 wr rows rows2 hv2 i) (ht : Turn F wr w') (hF : ∀ b t cs, Blk wr b t cs → (t = 36 ∨ t = 60) → ¬ F b) : ClX w0 w' rows rows2 hv2 i :=
  ⟨h.has.turn ht fun b hb => by
    obtain ⟨cur, hc⟩ := h.has.own_blk hb
    exact hF b _ _ hc (.inr rfl), h.len, fun j r2 hj => by
    obtain ⟨r, h1, h2, h3⟩ := h.row j r2 hj
    exact ⟨r, h1, h2, h3.turn ht fun b hb => by
      obtain ⟨cur, hc⟩ := h3.own_blk hb
      exact hF b _ _ hc (.inl rfl)⟩, h.ne⟩
theorem row1_app (a b : List Value) : row1 (a ++ b) = row1 a ++ row1 b := by unfold row1; rw [List.map_append]
/-- one disk more -/
theorem ClX.more {w0 wr w1 w2 w3 : World} {rows rows2 : List (Value × List Value)} {hv2 : Value} {i : Nat} {r : Value × List Value} {A : Option Addr} {n c : Nat} {hv3 : Value} (h : ClX w0 wr rows rows2 hv2 i) (h0 : w0.heap.size ≤ wr.heap.size) (hr : rows[i]? = some r)
    (ht1 : Turn nowhere wr w1) (ho : Orw w1 wr.heap.size 36 1 (.slice A n c) (row1 r.2)) (ht2 : Turn nowhere w1 w2) (ht3 : Turn (fun b => hv2.ownBlock = some b) w2 w3) (hh : Orw w3 w0.heap.size 60 1 hv3 (row1 (rows2.map (·.1)) ++ [[.slice A n c]])) :
    ClX w0 w3 rows (rows2 ++ [(.slice A n c, r.2)]) hv3 (i + 1) := by
  have h2 := (h.turn ht1 fun _ _ _ _ _ e => e).turn ht2 fun _ _ _ _ _ e => e
  have ho2 := ho.still ht2
  have far : ∀ {b : Nat} {cs : Array Value}, Blk w2 b 36 cs → hv2.ownBlock ≠ some b := fun hb e => by
    obtain ⟨cur, hc⟩ := h2.has.own_blk e
    exact absurd (blk_ty hb hc) (by decide)
  refine ⟨by rw [List.map_append, row1_app]; exact hh, by rw [List.length_append, h.len]; rfl, fun j r2 hj => ?_, fun j m x y b hx hy hjm hb hb2 => ?_⟩
  · by_cases hji : j < i
    · rw [List.getElem?_append_left (by rw [h.len]; exact hji)] at hj
      obtain ⟨x, h3, h4, h5⟩ := h2.row j r2 hj
      exact ⟨x, h3, h4, h5.turn ht3 fun b hb => by
        obtain ⟨cur, hc⟩ := h5.own_blk hb
        exact far hc⟩
    · have hj' := (List.getElem?_eq_some_iff.1 hj).1
      rw [List.length_append, h.len] at hj'
      have : j = i := by simp at hj'; omega
      subst this
      rw [List.getElem?_append_right (by rw [h.len]; exact Nat.le_refl _), h.len, Nat.sub_self] at hj
      injection hj with hj
      subst hj
      exact ⟨r, hr, rfl, (ho2.turn ht3 fun b hb => by
        obtain ⟨cur, hc⟩ := ho2.own_blk hb
        exact far hc).less h0⟩
  · have old : ∀ (j : Nat) (x : Value × List Value), (rows2 ++ [(Value.slice A n c, r.2)])[j]? = some x → (j < i ∧ rows2[j]? = some x) ∨ (j = i ∧ x = (.slice A n c, r.2)) := fun j x hx => by
      by_cases hji : j < i
      · rw [List.getElem?_append_left (by rw [h.len]; exact hji)] at hx
        exact .inl ⟨hji, hx⟩
      · have hj' := (List.getElem?_eq_some_iff.1 hx).1
        rw [List.length_append, h.len] at hj'
        have : j = i := by simp at hj'; omega
        subst this
        rw [List.getElem?_append_right (by rw [h.len]; exact Nat.le_refl _), h.len, Nat.sub_self] at hx
        injection hx with hx
        exact .inr ⟨rfl, hx.symm⟩
    rcases old j x hx with ⟨j1, j2⟩ | ⟨j1, j2⟩
    · rcases old m y hy with ⟨m1, m2⟩ | ⟨m1, m2⟩
      · exact h.ne j m x y b j2 m2 hjm hb hb2
      · rw [m2] at hb2
        obtain ⟨_, _, _, h5⟩ := h.row j x j2
        have h6 := (h5.lt hb).2
        have h7 := (ho.lt hb2).1
        omega
    · rcases old m y hy with ⟨m1, m2⟩ | ⟨m1, m2⟩
      · rw [j2] at hb
        obtain ⟨_, _, _, h5⟩ := h.row m y m2
        have h6 := (h5.lt hb2).2
        have h7 := (ho.lt hb).1
        omega
      · omega
set_option maxRecDepth 20000 in
set_option maxHeartbeats 4000000 in
theorem RAt.clone (h : RAt w q G Z a) (hR : a.R.length < 1099511627776) :
    Calls Try.prog 8 #[.pointer (some ⟨q, 0, none⟩)] w fun e w' => ∃ q2 G2 Z2, e = .returned (.pointer (some ⟨q2, 0, none⟩)) ∧ RAt w' q2 G2 Z2 a ∧ (∀ b, G2 b → w.heap.size ≤ b) ∧ (∀ b, Z2 b → Z b ∨ w.heap.size ≤ b) ∧ Turn nowhere w w' := by
  obtain ⟨mv, hv, wv, zs, rows, ws, h, rfl⟩ := h
  have hform := h.mform
  have hone := fun (o b : Bool) (l d : Int) => rp_one h (o := o) (b := b) (l := l) (d := d)
  obtain ⟨hvb, hc, rfl⟩ := h.hform
  have hwl : ws.length = a.R.length := by rw [← h.wr, List.length_map]
  obtain ⟨Aw, cw, rfl, hwc, _, hcz, _⟩ := h.wts.form
  simp only [List.length_map] at *
  generalize hn : ws.length = n at *
  generalize hm : a.ds.length = m at *
  have HX := Lib.hid h
  have HO1 := Lib.hid hone
  have HN := Lib.hid (show n = ws.length ∧ n = a.R.length from ⟨hn.symm, by omega⟩)
  have HM := Lib.hid (show a.ds.length = m from hm)
  have HD := Lib.hid (show 1 ≤ m ∧ m ≤ 4 from by have := h.d1; omega)
  have HCZ := Lib.hid hcz
  have HB := Lib.hid h.blk
  have yn : (n : Int) < 1099511627776 := by omega
  have ym : (m : Int) ≤ 4 := by have := h.d1; omega
  clear h hR hwl hn hm hcz hwc hform hone
  go_enter Try.func8, Try.ntmps8
  go_upto_region 0 with fail
  refine wp_region_lit ?_
  refine wpList_run (v := .pointer none) (wanted_none rfl) (gx_assign rfl rfl) ?_
  simp only [Act.put, List.setIfInBounds_toArray, List.set_cons_zero, List.set_cons_succ]
  go_upto_region 1 with fail
  refine wp_region_lit ?_
  refine wpList_run (v := .pointer (some ⟨q, 0, none⟩)) (wanted_none rfl) (exec_move rfl rfl) ?_
  simp only [Act.put, List.setIfInBounds_toArray, List.set_cons_zero, List.set_cons_succ]
  refine wpList_run (v := .pointer (some ⟨q, 0, none⟩)) (wanted_none rfl) (exec_nil rfl rfl) ?_
  simp only [Act.put, List.setIfInBounds_toArray, List.set_cons_zero, List.set_cons_succ]
  refine wpList_run (v := .agg (refCells mv (.slice (some ⟨hvb, 0, none⟩) m hc) (.slice Aw n cw) a.off a.burns a.left a.done)) (wanted_none rfl) (gx_loads rfl rfl (blk_range HB.out) Try.underlying49 rfl (by rw [size_rp]; rfl)) ?_
  simp only [Act.put, List.setIfInBounds_toArray, List.set_cons_zero, List.set_cons_succ]
  refine wpList_new 49 (.tmp 3) (.tmp 7) (refCells mv (.slice (some ⟨hvb, 0, none⟩) m hc) (.slice Aw n cw) a.off a.burns a.left a.done) rfl rfl (zero_rp _) rfl rfl rfl rfl rfl rfl (by rw [size_rp]; rfl) (HO1.out _ _ _ _) ?_
  intro w1 q2 hge hbv ht1
  simp only [Act.put, List.setIfInBounds_toArray, List.set_cons_zero, List.set_cons_succ]
  have HB1 := Lib.hid hbv
  have HT1 := Lib.hid ht1
  have HQ2 := Lib.hid hge
  clear hge hbv ht1
  go_upto_region 2 with fail
  refine wp_region_lit ?_
  refine wpList_run (v := .pointer (some ⟨q2, 1, none⟩)) (wanted_none rfl) (exec_field (off := 0) (d := 1) rfl rfl (by kernel_rfl)) ?_
  simp only [Act.put, List.setIfInBounds_toArray, List.set_cons_zero, List.set_cons_succ]
  refine wpList_storeU 1 (.slice none 0 0) (wanted_none rfl) 46 _ _ rfl HB1.out rfl rfl (by show 1 < 7; omega) ⟨rfl, rfl⟩ (by kernel_rfl) ?_
  intro w2 hb2 ht2
  simp only [Act.put, List.setIfInBounds_toArray, List.set_cons_zero, List.set_cons_succ]
  have hb2 : Blk w2 q2 49 (refCells mv (.slice none 0 0) (.slice Aw n cw) a.off a.burns a.left a.done) := hb2
  have HB2 := Lib.hid hb2
  have HT2 := Lib.hid (HT1.out.trans ht2 fun b hb e => by have h1 : b = q2 := e; have := HQ2.out; omega)
  clear hb2 ht2
  go_upto_region 3 with fail
  refine wp_region_lit ?_
  refine wpList_run (v := .int .i64 0) (wanted_none rfl) (gx_assign rfl rfl) ?_
  simp only [Act.put, List.setIfInBounds_toArray, List.set_cons_zero, List.set_cons_succ]
  go_wp2_with fail
  go_loopg [4] m (fun gk iv wr => ∃ (i : Nat) (hv2 : Value) (rows2 : List (Value × List Value)), iv = .int .i64 (i : Int) ∧ i + gk = m ∧ Blk wr q2 49 (refCells mv hv2 (.slice Aw n cw) a.off a.burns a.left a.done) ∧ ClX w wr rows rows2 hv2 i ∧ Turn nowhere w wr)
  case atStart => exact ⟨0, .slice none 0 0, [], rfl, by omega, HB2.out, ⟨Orw.nil _ _ _ _, rfl, fun j r2 hj => (by simp at hj), fun j m r r' b hj => (by simp at hj)⟩, HT2.out⟩
  obtain ⟨i, hv2, rows2, rfl, hgk, hbq, hcl, htr⟩ := hrel
  have HGK := Lib.hid hgk
  have HBQ := Lib.hid hbq
  have HCL := Lib.hid hcl
  have HTR := Lib.hid htr
  have HXR := Lib.hid (HX.out.off htr (fun _ _ e => e) fun _ _ _ e => e)
  have yi : (i : Int) ≤ (m : Int) := by omega
  clear hgk hbq hcl htr
  by_cases hlt : i < m
  · have HLT := Lib.hid hlt
    have y3 : (i : Int) < (m : Int) := by omega
    obtain ⟨e, he⟩ := getQ' (l := a.ds) (i := i) (by have := HM.out; omega)
    obtain ⟨r, g, cg, cur, hr, hr1, hcell, hbg, hgs, hgg⟩ := HXR.out.hrow he
    obtain ⟨hrl, hro, _⟩ := HXR.out.row i r e hr he
    have hsz := HXR.out.sz e (List.mem_of_getElem? he)
    have HR_ := Lib.hid hr
    have HCLL := Lib.hid hcell
    rw [hr1] at hro
    obtain ⟨e1, he1⟩ : ∃ x, x = e.1 := ⟨_, rfl⟩
    rw [← he1] at hrl hro hcell hsz HCLL
    have HCLW := Lib.hid (show hvb < w.heap.size from by
      obtain ⟨cu, hcu⟩ := HX.out.has.own_blk (b := hvb) rfl
      exact hcu.lt)
    have HCLE := Lib.hid ((HTR.out.cell (p := ⟨hvb, 0 + i * 1, none⟩) HCLW.out fun e => e).symm.trans HCLL.out)
    have hhf := HCL.out.has.form
    obtain ⟨A2, c2, hhv, _⟩ := hhf
    have e9 : (row1 (rows2.map (·.1))).length = i := by rw [len_row1, List.length_map]; exact HCL.out.len
    rw [e9] at hhv
    subst hhv
    have HL2 := Lib.hid HCL.out.len
    clear e9
    obtain ⟨wd, hwd⟩ : ∃ v, v = wr.drew := ⟨_, rfl⟩
    have htd : Turn nowhere wr wd := by rw [hwd]; exact (Turn.refl _ _).drew
    have hcld := HCL.out.turn htd fun _ _ _ _ _ e => e
    obtain ⟨A8, c8, w8, hrun8, ho8, ht8⟩ := copy_rws elmR (ty := 60) (c := cg) ((hro.still htd).rws (by rw [len_row1]; omega) (by decide)) (fit_row1 fun u hu => by
      obtain ⟨k, hk⟩ := List.mem_iff_getElem?.1 hu
      exact ((HXR.out.row i r e hr he).2.2 k u hk).one.1) (fun h => by cases h) (by omega)
    have hta := (Turn.refl nowhere w8).alloc (.cells #[.slice A8 e1 c8] 60)
    have hcl8 := ((hcld.turn ht8 fun _ _ _ _ _ e => e).turn hta fun _ _ _ _ _ e => e)
    obtain ⟨A9, c9, w9, hrun9, ho9, hg9, _⟩ := orw_grow elmH (ty := 46) (B := w.heap.size) (news := [[.slice A8 e1 c8]]) (A := some ⟨w8.heap.size, 0, none⟩) (m := 1) (c := 1) hcl8.has (Nat.le_trans HTR.out.size (Nat.le_trans htd.size (Nat.le_trans ht8.size hta.size))) (rws_one (et := 60) (r := [.slice A8 e1 c8]) rfl fun _ => trivial) (Fit.one rfl (fun u hu => by
      have hu : u ∈ [Value.slice A8 e1 c8] := hu
      rw [List.mem_singleton.1 hu]; rfl)) (fun e => by cases e) (by rw [len_row1, List.length_map, HL2.out]; omega)
    rw [len_row1, List.length_map, HL2.out] at hrun9 ho9
    have ht9 : Turn (fun b => (Value.slice A2 i c2).ownBlock = some b) (w8.alloc (.cells #[.slice A8 e1 c8] 60)) w9 := (Turn.refl _ _).grown hg9 fun b e _ => e
    have HCL9 := Lib.hid (ClX.more (r := r) hcld (Nat.le_trans HTR.out.size htd.size) hr ht8 ho8 hta ht9 ho9)
    have HRUN8 := Lib.hid hrun8
    have HRUN9 := Lib.hid hrun9
    have HO9 := Lib.hid ho9
    have HBO := Lib.hid (build_one elmH [.slice A8 e1 c8] rfl (by decide) (.slice A8 e1 c8) rfl w8)
    have hq8 : Blk w8 q2 49 (refCells mv (.slice A2 i c2) (.slice Aw n cw) a.off a.burns a.left a.done) := (HBQ.out.turn htd fun e => e).turn ht8 fun e => e
    have HQ8 := Lib.hid hq8
    have HQ9 := Lib.hid ((hq8.alloc (.cells #[.slice A8 e1 c8] 60)).turn ht9 fun e => by
      obtain ⟨cu, hcu⟩ := hcl8.has.own_blk e
      exact absurd (blk_ty (hq8.alloc (.cells #[.slice A8 e1 c8] 60)) hcu) (by decide))
    have HT9 := Lib.hid (show Turn nowhere w w9 from ((HTR.out.trans htd fun _ _ e => e).trans ht8 fun _ _ e => e).trans hta (fun _ _ e => e) |>.trans ht9 fun b hb e => by have := (hcl8.has.lt e).1; omega)
    have HXD := Lib.hid (HXR.out.off htd (fun _ _ e => e) fun _ _ _ e => e)
    clear he hr hr1 hbg hgs hgg hrl hro hsz hcld hrun8 ho8 hcl8 hrun9 ho9 hg9 ht9 he1 hlt
    go_upto_region 4 with fail
    refine wp_region_lit ?_
    refine wpList_run (v := .int .i64 (i : Int)) (wanted_none rfl) (exec_move rfl rfl) ?_
    simp only [Act.put, List.setIfInBounds_toArray, List.set_cons_zero, List.set_cons_succ]
    refine wpList_run (v := .pointer (some ⟨q, 0, none⟩)) (wanted_none rfl) (exec_move rfl rfl) ?_
    simp only [Act.put, List.setIfInBounds_toArray, List.set_cons_zero, List.set_cons_succ]
    refine wpList_run (v := .pointer (some ⟨q, 0, none⟩)) (wanted_none rfl) (exec_nil rfl rfl) ?_
    simp only [Act.put, List.setIfInBounds_toArray, List.set_cons_zero, List.set_cons_succ]
    refine wpList_run (v := .pointer (some ⟨q, 1, none⟩)) (wanted_none rfl) (exec_field (off := 0) (d := 1) rfl rfl (by kernel_rfl)) ?_
    simp only [Act.put, List.setIfInBounds_toArray, List.set_cons_zero, List.set_cons_succ]
    refine wpList_run (v := .slice (some ⟨hvb, 0, none⟩) m hc) (wanted_none rfl) (exec_load1 rfl rfl (by kernel_rfl) (HXR.out.blk.cell 1)) ?_
    simp only [Act.put, List.setIfInBounds_toArray, List.set_cons_zero, List.set_cons_succ]
    refine wpList_run (v := .int .i64 (m : Int)) (wanted_none rfl) (gx_len rfl rfl Try.underlying46) ?_
    simp only [Act.put, List.setIfInBounds_toArray, List.set_cons_zero, List.set_cons_succ]
    refine wpList_run (v := .bool true) (wanted_none rfl) (ix_lss rfl rfl rfl (decide_eq_true y3)) ?_
    simp only [Act.put, List.setIfInBounds_toArray, List.set_cons_zero, List.set_cons_succ]
    go_upto_region 6 with fail
    refine wp_region_till (fun W => Blk W q 49 (refCells mv (.slice (some ⟨hvb, 0, none⟩) m hc) (.slice Aw n cw) a.off a.burns a.left a.done) ∧ Blk W q2 49 (refCells mv (.slice A2 i c2) (.slice Aw n cw) a.off a.burns a.left a.done) ∧ W.cell? ⟨hvb, 0 + i * 1, none⟩ = some (.slice (some ⟨g, 0, none⟩) e1 cg)) 13 (by kernel_rfl) ?_
    rw [← hwd]
    have hS0 : Blk wd q 49 (refCells mv (.slice (some ⟨hvb, 0, none⟩) m hc) (.slice Aw n cw) a.off a.burns a.left a.done) ∧ Blk wd q2 49 (refCells mv (.slice A2 i c2) (.slice Aw n cw) a.off a.burns a.left a.done) ∧ wd.cell? ⟨hvb, 0 + i * 1, none⟩ = some (.slice (some ⟨g, 0, none⟩) e1 cg) := ⟨HXD.out.blk, HBQ.out.turn htd fun e => e, (htd.cell (World.block_lt_of_cell? _ _ HCLL.out) fun e => e).trans HCLL.out⟩
    clear hwd hcell
    refine till_take (i := 0) (v := .pointer (some ⟨q2, 1, none⟩)) rfl (by kernel_rfl) (by kernel_rfl) (fun _ _ _ h => h) (.inl ⟨by rfl, fun W hW => exec_field (off := 0) (d := 1) rfl rfl (by kernel_rfl)⟩) hS0 ?_
    simp only [Act.put, List.setIfInBounds_toArray, List.set_cons_zero, List.set_cons_succ]
    refine till_take (i := 1) (v := .slice A2 i c2) rfl (by kernel_rfl) (by kernel_rfl) (fun _ _ _ h => h) (.inl ⟨by rfl, fun W hW => exec_load1 rfl rfl (by kernel_rfl) (hW.2.1.cell 1)⟩) hS0 ?_
    simp only [Act.put, List.setIfInBounds_toArray, List.set_cons_zero, List.set_cons_succ]
    refine till_take (i := 3) (v := .pointer (some ⟨q, 0, none⟩)) rfl (by kernel_rfl) (by kernel_rfl) (fun _ _ _ h => h) (.inl ⟨by rfl, fun W hW => exec_move rfl rfl⟩) hS0 ?_
    simp only [Act.put, List.setIfInBounds_toArray, List.set_cons_zero, List.set_cons_succ]
    refine till_take (i := 4) (v := .pointer (some ⟨q, 0, none⟩)) rfl (by kernel_rfl) (by kernel_rfl) (fun _ _ _ h => h) (.inl ⟨by rfl, fun W hW => exec_nil rfl rfl⟩) hS0 ?_
    simp only [Act.put, List.setIfInBounds_toArray, List.set_cons_zero, List.set_cons_succ]
    refine till_take (i := 5) (v := .pointer (some ⟨q, 1, none⟩)) rfl (by kernel_rfl) (by kernel_rfl) (fun _ _ _ h => h) (.inl ⟨by rfl, fun W hW => exec_field (off := 0) (d := 1) rfl rfl (by kernel_rfl)⟩) hS0 ?_
    simp only [Act.put, List.setIfInBounds_toArray, List.set_cons_zero, List.set_cons_succ]
    refine till_take (i := 6) (v := .slice (some ⟨hvb, 0, none⟩) m hc) rfl (by kernel_rfl) (by kernel_rfl) (fun _ _ _ h => h) (.inl ⟨by rfl, fun W hW => exec_load1 rfl rfl (by kernel_rfl) (hW.1.cell 1)⟩) hS0 ?_
    simp only [Act.put, List.setIfInBounds_toArray, List.set_cons_zero, List.set_cons_succ]
    refine till_take (i := 7) (v := .int .i64 (i : Int)) rfl (by kernel_rfl) (by kernel_rfl) (fun _ _ _ h => h) (.inl ⟨by rfl, fun W hW => exec_move rfl rfl⟩) hS0 ?_
    simp only [Act.put, List.setIfInBounds_toArray, List.set_cons_zero, List.set_cons_succ]
    refine till_take (i := 8) (v := .pointer (some ⟨hvb, 0 + i * 1, none⟩)) rfl (by kernel_rfl) (by kernel_rfl) (fun _ _ _ h => h) (.inl ⟨by rfl, fun W hW => gx_iaddr (i := i) (sz := 1) rfl rfl rfl Try.underlying46 size_rowsR HLT.out rfl⟩) hS0 ?_
    simp only [Act.put, List.setIfInBounds_toArray, List.set_cons_zero, List.set_cons_succ]
    refine till_take (i := 9) (v := .slice (some ⟨g, 0, none⟩) e1 cg) rfl (by kernel_rfl) (by kernel_rfl) (fun _ _ _ h => h) (.inl ⟨by rfl, fun W hW => exec_load1 rfl rfl (by kernel_rfl) hW.2.2⟩) hS0 ?_
    simp only [Act.put, List.setIfInBounds_toArray, List.set_cons_zero, List.set_cons_succ]
    have hSa := (Turn.refl nowhere wd).alloc (.cells #[] 36)
    refine till_step (i := 2) (by kernel_rfl) rfl rfl ?_
    intro K1 HK1
    refine wp_run (v := .slice (some ⟨wd.heap.size, 0, none⟩) 0 0) (w' := wd.alloc (.cells #[] 36)) (bx_slice0 rfl (build0R _)) ?_
    refine HK1.out _ _ ⟨fun _ => ⟨hS0.1.turn hSa fun e => e, hS0.2.1.turn hSa fun e => e, (hSa.cell (World.block_lt_of_cell? _ _ hS0.2.2) fun e => e).trans hS0.2.2⟩, ?_⟩
    clear HK1
    try simp only [Act.put, List.setIfInBounds_toArray, List.set_cons_zero, List.set_cons_succ]
    have hS8 : Blk w8 q 49 (refCells mv (.slice (some ⟨hvb, 0, none⟩) m hc) (.slice Aw n cw) a.off a.burns a.left a.done) ∧ Blk w8 q2 49 (refCells mv (.slice A2 i c2) (.slice Aw n cw) a.off a.burns a.left a.done) ∧ w8.cell? ⟨hvb, 0 + i * 1, none⟩ = some (.slice (some ⟨g, 0, none⟩) e1 cg) := ⟨hS0.1.turn ht8 fun e => e, HQ8.out, (ht8.cell (World.block_lt_of_cell? _ _ hS0.2.2) fun e => e).trans hS0.2.2⟩
    refine till_step (i := 10) (by kernel_rfl) rfl rfl ?_
    intro K1 HK1
    refine wp_run (v := .slice A8 e1 c8) (w' := w8) (exec_append rfl rfl rfl HRUN8.out) ?_
    refine HK1.out _ _ ⟨fun _ => hS8, ?_⟩
    clear HK1
    try simp only [Act.put, List.setIfInBounds_toArray, List.set_cons_zero, List.set_cons_succ]
    refine till_step (i := 11) (by kernel_rfl) rfl rfl ?_
    intro K1 HK1
    refine wp_run (v := .slice (some ⟨w8.heap.size, 0, none⟩) 1 1) (w' := w8.alloc (.cells #[.slice A8 e1 c8] 60)) (exec_buildSlice1 rfl rfl HBO.out) ?_
    refine HK1.out _ _ ⟨fun _ => ⟨hS8.1.turn hta fun e => e, hS8.2.1.turn hta fun e => e, (hta.cell (World.block_lt_of_cell? _ _ hS8.2.2) fun e => e).trans hS8.2.2⟩, ?_⟩
    clear HK1
    try simp only [Act.put, List.setIfInBounds_toArray, List.set_cons_zero, List.set_cons_succ]
    have hS9 : Blk w9 q 49 (refCells mv (.slice (some ⟨hvb, 0, none⟩) m hc) (.slice Aw n cw) a.off a.burns a.left a.done) ∧ Blk w9 q2 49 (refCells mv (.slice A2 i c2) (.slice Aw n cw) a.off a.burns a.left a.done) ∧ w9.cell? ⟨hvb, 0 + i * 1, none⟩ = some (.slice (some ⟨g, 0, none⟩) e1 cg) := ⟨HX.out.blk.turn HT9.out fun e => e, HQ9.out, (HT9.out.cell (p := ⟨hvb, 0 + i * 1, none⟩) HCLW.out fun e => e).trans HCLE.out⟩
    refine till_step (i := 12) (by kernel_rfl) rfl rfl ?_
    intro K1 HK1
    refine wp_run (v := .slice A9 (i + 1) c9) (w' := w9) (exec_append rfl rfl rfl HRUN9.out) ?_
    refine HK1.out _ _ ⟨fun _ => hS9, ?_⟩
    clear HK1
    try simp only [Act.put, List.setIfInBounds_toArray, List.set_cons_zero, List.set_cons_succ]
    refine till_tail 13 rfl (by kernel_rfl) ?_
    clear hS0 hS8 hSa hS9 htd hta ht8
    refine wpList_run (v := .pointer (some ⟨q2, 1, none⟩)) (wanted_none rfl) (exec_field (off := 0) (d := 1) rfl rfl (by kernel_rfl)) ?_
    simp only [Act.put, List.setIfInBounds_toArray, List.set_cons_zero, List.set_cons_succ]
    refine wpList_storeU 1 (.slice A9 (i + 1) c9) (wanted_none rfl) 46 _ _ rfl HQ9.out rfl rfl (by show 1 < 7; omega) ⟨rfl, rfl⟩ (by kernel_rfl) ?_
    intro w10 hb10 ht10
    simp only [Act.put, List.setIfInBounds_toArray, List.set_cons_zero, List.set_cons_succ]
    refine NoPanic.normal ?_
    have hb10 : Blk w10 q2 49 (refCells mv (.slice A9 (i + 1) c9) (.slice Aw n cw) a.off a.burns a.left a.done) := hb10
    have HB10 := Lib.hid hb10
    have HCL10 := Lib.hid (HCL9.out.turn ht10 fun b t cs h1 h2 e => by
      have h3 : b = q2 := e
      subst h3
      have := blk_ty h1 HQ9.out
      subst this
      rcases h2 with h2 | h2 <;> revert h2 <;> decide)
    have HT10 := Lib.hid (HT9.out.trans ht10 fun b hb e => by have h1 : b = q2 := e; have := HQ2.out; omega)
    clear hb10 ht10
    go_upto_region 5 with fail
    refine wp_region_lit ?_
    refine wpList_run (v := .int .i64 (i : Int)) (wanted_none rfl) (exec_move rfl rfl) ?_
    simp only [Act.put, List.setIfInBounds_toArray, List.set_cons_zero, List.set_cons_succ]
    refine wpList_run (v := .int .i64 ((i + 1 : Nat) : Int)) (wanted_none rfl) (ix_add rfl rfl rfl (by omega) (by omega)) ?_
    simp only [Act.put, List.setIfInBounds_toArray, List.set_cons_zero, List.set_cons_succ]
    refine wpList_run (v := .int .i64 ((i + 1 : Nat) : Int)) (wanted_none rfl) (gx_assign rfl rfl) ?_
    simp only [Act.put, List.setIfInBounds_toArray, List.set_cons_zero, List.set_cons_succ]
    go_wp2_with fail
    go_roundg (m - (i + 1))
    case measure => have := HGK.out; have := HLT.out; omega
    case rel => exact ⟨i + 1, _, _, rfl, by have := HLT.out; omega, HB10.out, HCL10.out, HT10.out⟩
  · obtain rfl : m = i := by have := HGK.out; omega
    clear hlt
    obtain ⟨A8, c8, w8, hrun8, ho8, ht8⟩ := copy_rws elmW (ty := 47) (c := cw) (HXR.out.wts.rws (by rw [List.length_map]; have := HN.out; omega) (by decide)) HXR.out.wts.1 HCZ.out (by have := HN.out; omega)
    have HRUN8 := Lib.hid hrun8
    have HO8 := Lib.hid ho8
    have HT8 := Lib.hid (HTR.out.trans ht8 fun _ _ e => e)
    have HBQ8 := Lib.hid (HBQ.out.turn ht8 fun e => e)
    have HCL8 := Lib.hid (HCL.out.turn ht8 fun _ _ _ _ _ e => e)
    have HSR := Lib.hid HTR.out.size
    clear hrun8 ho8 ht8
    go_upto_region 4 with fail
    refine wp_region_lit ?_
    refine wpList_run (v := .int .i64 (m : Int)) (wanted_none rfl) (exec_move rfl rfl) ?_
    simp only [Act.put, List.setIfInBounds_toArray, List.set_cons_zero, List.set_cons_succ]
    refine wpList_run (v := .pointer (some ⟨q, 0, none⟩)) (wanted_none rfl) (exec_move rfl rfl) ?_
    simp only [Act.put, List.setIfInBounds_toArray, List.set_cons_zero, List.set_cons_succ]
    refine wpList_run (v := .pointer (some ⟨q, 0, none⟩)) (wanted_none rfl) (exec_nil rfl rfl) ?_
    simp only [Act.put, List.setIfInBounds_toArray, List.set_cons_zero, List.set_cons_succ]
    refine wpList_run (v := .pointer (some ⟨q, 1, none⟩)) (wanted_none rfl) (exec_field (off := 0) (d := 1) rfl rfl (by kernel_rfl)) ?_
    simp only [Act.put, List.setIfInBounds_toArray, List.set_cons_zero, List.set_cons_succ]
    refine wpList_run (v := .slice (some ⟨hvb, 0, none⟩) m hc) (wanted_none rfl) (exec_load1 rfl rfl (by kernel_rfl) (HXR.out.blk.cell 1)) ?_
    simp only [Act.put, List.setIfInBounds_toArray, List.set_cons_zero, List.set_cons_succ]
    refine wpList_run (v := .int .i64 (m : Int)) (wanted_none rfl) (gx_len rfl rfl Try.underlying46) ?_
    simp only [Act.put, List.setIfInBounds_toArray, List.set_cons_zero, List.set_cons_succ]
    refine wpList_run (v := .bool false) (wanted_none rfl) (ix_lss rfl rfl rfl (decide_eq_false (by omega))) ?_
    simp only [Act.put, List.setIfInBounds_toArray, List.set_cons_zero, List.set_cons_succ]
    go_upto_region 7 with fail
    refine wp_region_lit ?_
    refine wpList_run (v := .slice (some ⟨wr.heap.size, 0, none⟩) 0 0) (w' := wr.alloc (.cells #[] 72)) (wanted_none rfl) (bx_slice0 rfl (build0W _)) ?_
    simp only [Act.put, List.setIfInBounds_toArray, List.set_cons_zero, List.set_cons_succ]
    refine wpList_run (v := .pointer (some ⟨q, 0, none⟩)) (wanted_none rfl) (exec_move rfl rfl) ?_
    simp only [Act.put, List.setIfInBounds_toArray, List.set_cons_zero, List.set_cons_succ]
    refine wpList_run (v := .pointer (some ⟨q, 0, none⟩)) (wanted_none rfl) (exec_nil rfl rfl) ?_
    simp only [Act.put, List.setIfInBounds_toArray, List.set_cons_zero, List.set_cons_succ]
    refine wpList_run (v := .pointer (some ⟨q, 2, none⟩)) (wanted_none rfl) (exec_field (off := 0) (d := 2) rfl rfl (by kernel_rfl)) ?_
    simp only [Act.put, List.setIfInBounds_toArray, List.set_cons_zero, List.set_cons_succ]
    refine wpList_run (v := .slice Aw n cw) (wanted_none rfl) (exec_load1 rfl rfl (by kernel_rfl) ((HXR.out.blk.alloc _).cell 2)) ?_
    simp only [Act.put, List.setIfInBounds_toArray, List.set_cons_zero, List.set_cons_succ]
    refine wpList_run (v := .slice A8 n c8) (w' := w8) (wanted_none rfl) (exec_append rfl rfl rfl HRUN8.out) ?_
    simp only [Act.put, List.setIfInBounds_toArray, List.set_cons_zero, List.set_cons_succ]
    refine wpList_run (v := .pointer (some ⟨q2, 2, none⟩)) (wanted_none rfl) (exec_field (off := 0) (d := 2) rfl rfl (by kernel_rfl)) ?_
    simp only [Act.put, List.setIfInBounds_toArray, List.set_cons_zero, List.set_cons_succ]
    refine wpList_storeU 2 (.slice A8 n c8) (wanted_none rfl) 47 _ _ rfl HBQ8.out rfl rfl (by show 2 < 7; omega) ⟨rfl, rfl⟩ (by kernel_rfl) ?_
    intro w9 hb9 ht9
    simp only [Act.put, List.setIfInBounds_toArray, List.set_cons_zero, List.set_cons_succ]
    have hb9 : Blk w9 q2 49 (refCells mv hv2 (.slice A8 n c8) a.off a.burns a.left a.done) := hb9
    have hT9 : Turn nowhere w w9 := HT8.out.trans ht9 fun b hb e => by have h1 : b = q2 := e; have := HQ2.out; omega
    have hX9 := HX.out.off hT9 (fun _ _ e => e) fun _ _ _ e => e
    have hC9 := HCL8.out.turn ht9 fun b t cs h1 h2 e => by
      have h3 : b = q2 := e
      subst h3
      have := blk_ty h1 HBQ8.out
      subst this
      rcases h2 with h2 | h2 <;> revert h2 <;> decide
    have hW9 := HO8.out.turn ht9 fun b hb e => by
      obtain ⟨cu, hcu⟩ := HO8.out.own_blk hb
      exact hcu.notOnly HBQ8.out (by decide) e
    have HF := Lib.hid (show ∃ q3 G2 Z2, (Ending.returned (.pointer (some ⟨q2, 0, none⟩)) : Ending) = .returned (.pointer (some ⟨q3, 0, none⟩)) ∧ RAt w9 q3 G2 Z2 a ∧ (∀ b, G2 b → w.heap.size ≤ b) ∧ (∀ b, Z2 b → Z b ∨ w.heap.size ≤ b) ∧ Turn nowhere w w9 from ⟨q2, RG q2 rows2 (.slice A8 n c8), fun b => Z b ∨ hv2.ownBlock = some b, rfl, ⟨_, _, _, zs, rows2, ws, { hX9 with
        blk := hb9
        has := hC9.has.less (Nat.zero_le _)
        hlen := by rw [hC9.len, ← HM.out]
        row := fun j r e hr he => by
          obtain ⟨r0, h1, h2, h3⟩ := hC9.row j r hr
          obtain ⟨h4, h5, h6⟩ := hX9.row j r0 e h1 he
          exact ⟨by rw [h2]; exact h4, h3.less (Nat.zero_le _), fun k u hu => (h6 k u (by rw [← h2]; exact hu)).more fun b hb => .inl hb⟩
        ne := hC9.ne
        wts := hW9.less (Nat.zero_le _)
        wsec := fun x hx => (hX9.wsec x hx).more fun b hb => .inl hb
        zm := fun b hb => .inl (hX9.zm b hb)
        zh := fun b hb => .inr hb
        zlt := fun b hb => hb.elim (hX9.zlt b) fun hb => (hC9.has.lt hb).2 }, rfl⟩, fun b hb => by
      rcases hb with rfl | ⟨r, hr, hb⟩ | hb
      · exact HQ2.out
      · obtain ⟨j, hj⟩ := List.mem_iff_getElem?.1 hr
        obtain ⟨_, _, _, h3⟩ := hC9.row j r hj
        exact (h3.lt hb).1
      · exact Nat.le_trans HSR.out (hW9.lt hb).1, fun b hb => hb.imp (fun h => h) fun hb => (hC9.has.lt hb).1, hT9⟩)
    clear hb9 ht9 hT9 hX9 hC9 hW9
    go_upto_region 8 with fail
    refine wp_region_lit ?_
    refine wpList_run (v := .pointer (some ⟨q2, 0, none⟩)) (wanted_none rfl) (gx_assign rfl rfl) ?_
    simp only [Act.put, List.setIfInBounds_toArray, List.set_cons_zero, List.set_cons_succ]
    go_wp2_with fail
    go_ret
    exact HF.out
end
end Go.Proofs.Yteedjfgandgbkaa
