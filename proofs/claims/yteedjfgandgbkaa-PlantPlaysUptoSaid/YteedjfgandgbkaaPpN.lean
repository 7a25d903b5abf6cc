/-
  The reference's plant: New: the walk. No conditions.
-/
import Derived.Test.YteedjfgandgbkaaPpH
import Derived.Test.YteedjfgandgbkaaJa0
namespace Go.Proofs.Yteedjfgandgbkaa
open Go.RowKit Go.Maps
set_option linter.unusedVariables false
set_option linter.unusedSimpArgs false
theorem size_intN : (Try.prog.info? 3).map (·.size) = some 1 := by kernel_rfl
def nils (n : Nat) : List Value := List.replicate n (.slice none 0 0)
theorem nils_one {n : Nat} : ∀ u ∈ nils n, u.oneCell' = true := fun u hu => by
  rw [(List.mem_replicate.1 hu).2]
  rfl
theorem build0P (W : World) : (Instr.build 49 #[]).run Try.prog W = .ok (.agg (refCells (.slice none 0 0) (.slice none 0 0) (.slice none 0 0) false false 0 0)) W := by kernel_rfl
theorem boxP (w : World) : (Instr.box 49 (.agg (refCells (.slice none 0 0) (.slice none 0 0) (.slice none 0 0) false false 0 0))).run Try.prog w = .ok (.pointer (some ⟨w.heap.size, 0, none⟩)) (w.alloc (.cells (refCells (.slice none 0 0) (.slice none 0 0) (.slice none 0 0) false false 0 0) 49)) := by
  simp [Instr.box, newVar, newRow, Result.andThen, Value.cells]
theorem elmI : Elm Try.prog 22 3 1 8 (.int .i64 0) := ⟨Try.underlying22, by kernel_rfl, rfl, by decide, by decide⟩
/-- make of a row of nils -/
theorem made_row (w : World) (n : Nat) (hn : n ≤ 65536) : ∃ w', (Instr.makeSlice 60 (.int .i64 (n : Int)) (.int .i64 (n : Int))).run Try.prog w = .ok (.slice (some ⟨w.heap.size, 0, none⟩) n n) w' ∧ Orw w' w.heap.size 36 1 (.slice (some ⟨w.heap.size, 0, none⟩) n n) (row1 (nils n)) ∧ Turn nowhere w w' := by
  obtain ⟨i0, hi0, hz0, hz1, hz2⟩ := info_parts elmR.inf
  obtain ⟨w', h1, h2, h3⟩ := run_make_full (P := Try.prog) w w.heap.size 60 36 i0 _ 1 Try.underlying60 hi0 hz0 hz1 .i64 .i64 n (by rw [hz2]; omega) (by unfold maxLen; omega) (Nat.le_refl _)
  refine ⟨w', h1, ⟨fit_row1 nils_one, ?_⟩, (Turn.refl _ _).grown h3 fun b e _ => by cases e⟩
  rw [len_row1, flat_row1]
  have e : (madeCells (Value.slice none 0 0).cells (n * 1)).toList = nils n := by
    rw [Nat.mul_one]
    exact toList_madeCells_one _ n
  rw [e] at h2
  unfold nils at h2 ⊢
  rw [List.length_replicate]
  exact h2
/-- a new one, in plain data -/
def RP.new (zs : List Int) : RP := { ds := zs.map fun z => (z.toNat, fun _ => none), R := [], off := false, burns := false, left := 0, done := 0 }
theorem Lk.new {zs : List Int} (h : ∀ z ∈ zs, 1 ≤ z) : Lk (AP.new zs) (RP.new zs) := ⟨[], List.Pairwise.nil, (fun x hx => by cases hx), rfl, by simp [RP.new, AP.new], (fun i d e hd he => by
    simp only [AP.new, RP.new, List.getElem?_map, Option.map_eq_some_iff] at hd he
    obtain ⟨z, hz, rfl⟩ := hd
    obtain ⟨z', hz', rfl⟩ := he
    rw [hz] at hz'
    injection hz' with hz'
    subst hz'
    exact ⟨by have := h z (List.mem_of_getElem? hz); simp; omega, rfl, fun k => rfl⟩), rfl, rfl, (fun h => absurd h (show ¬ (0 : Int) ≤ -1 by decide)), rfl⟩
set_option maxRecDepth 20000 in
set_option maxHeartbeats 4000000 in
theorem rnew_at {w : World} (A : Option Addr) (n cap : Nat) (zs : List Int) (hz : Ks w nowhere A n zs) (hs : sizesOk zs) :
    Calls Try.prog 6 #[.slice A n cap] w fun e w' => ∃ q G Z, e = .returned (.tuple #[.pointer (some ⟨q, 0, none⟩), .int .i64 0]) ∧ RAt w' q G Z (RP.new zs) ∧ (∀ b, G b → w.heap.size ≤ b) ∧ (∀ b, Z b → w.heap.size ≤ b) ∧ Turn nowhere w w' := by
  obtain ⟨hzl, _, hzc⟩ := hz
  obtain ⟨h1, h4, hall⟩ := hs
  obtain ⟨g, off, rfl, hgl, _, hgc⟩ := hzc (by omega)
  have HC := Lib.hid hgc
  have HL := Lib.hid hzl
  have HG := Lib.hid hgl
  have HA := Lib.hid hall
  have yn1 : 1 ≤ (n : Int) := by omega
  have yn : (n : Int) ≤ 4 := by omega
  have HN4 := Lib.hid (show 1 ≤ n ∧ n ≤ 4 by omega)
  clear hgc hzc hzl hall hgl h1 h4
  go_enter Try.func6, Try.ntmps6
  go_upto_region 0 with fail
  refine wp_region_lit ?_
  refine wpList_run (v := .pointer none) (wanted_none rfl) (gx_assign rfl rfl) ?_
  simp only [Act.put, List.setIfInBounds_toArray, List.set_cons_zero, List.set_cons_succ]
  refine wpList_run (v := .int .i64 0) (wanted_none rfl) (gx_assign rfl rfl) ?_
  simp only [Act.put, List.setIfInBounds_toArray, List.set_cons_zero, List.set_cons_succ]
  go_upto_region 1 with fail
  refine wp_region_lit ?_
  refine wpList_run (v := .slice (some ⟨g, off, none⟩) n cap) (wanted_none rfl) (exec_move rfl rfl) ?_
  simp only [Act.put, List.setIfInBounds_toArray, List.set_cons_zero, List.set_cons_succ]
  refine wpList_run (v := .int .i64 (n : Int)) (wanted_none rfl) (gx_len rfl rfl Try.underlying22) ?_
  simp only [Act.put, List.setIfInBounds_toArray, List.set_cons_zero, List.set_cons_succ]
  refine wpList_run (v := .bool false) (wanted_none rfl) (ix_eql rfl rfl rfl (decide_eq_false (by omega))) ?_
  simp only [Act.put, List.setIfInBounds_toArray, List.set_cons_zero, List.set_cons_succ]
  refine wpList_run (v := .bool false) (wanted_none rfl) (exec_move rfl rfl) ?_
  simp only [Act.put, List.setIfInBounds_toArray, List.set_cons_zero, List.set_cons_succ]
  refine wpList_run (v := .slice (some ⟨g, off, none⟩) n cap) rfl (exec_move rfl rfl) ?_
  simp only [Act.put, List.setIfInBounds_toArray, List.set_cons_zero, List.set_cons_succ]
  refine wpList_run (v := .int .i64 (n : Int)) rfl (gx_len rfl rfl Try.underlying22) ?_
  simp only [Act.put, List.setIfInBounds_toArray, List.set_cons_zero, List.set_cons_succ]
  refine wpList_run (v := .bool false) rfl (ix_gtr rfl rfl rfl (decide_eq_false (by omega))) ?_
  simp only [Act.put, List.setIfInBounds_toArray, List.set_cons_zero, List.set_cons_succ]
  refine wpList_run (v := .bool false) (wanted_none rfl) (ix_pickF rfl rfl rfl) ?_
  simp only [Act.put, List.setIfInBounds_toArray, List.set_cons_zero, List.set_cons_succ]
  go_upto_region 3 with fail
  refine wp_region_lit ?_
  refine wpList_run (v := .agg (refCells (.slice none 0 0) (.slice none 0 0) (.slice none 0 0) false false 0 0)) (wanted_none rfl) (gx_build0 rfl (build0P _)) ?_
  simp only [Act.put, List.setIfInBounds_toArray, List.set_cons_zero, List.set_cons_succ]
  have hb := Blk.new w 49 (refCells (.slice none 0 0) (.slice none 0 0) (.slice none 0 0) false false 0 0)
  have ht := (Turn.refl nowhere w).alloc (.cells (refCells (.slice none 0 0) (.slice none 0 0) (.slice none 0 0) false false 0 0) 49)
  have hbx := boxP w
  obtain ⟨q, hq⟩ : ∃ y, y = w.heap.size := ⟨_, rfl⟩
  rw [← hq] at hb hbx
  generalize w.alloc (.cells (refCells (.slice none 0 0) (.slice none 0 0) (.slice none 0 0) false false 0 0) 49) = w1 at *
  refine wpList_run (v := .pointer (some ⟨q, 0, none⟩)) (w' := w1) (wanted_none rfl) (gx_box rfl rfl hbx) ?_
  simp only [Act.put, List.setIfInBounds_toArray, List.set_cons_zero, List.set_cons_succ]
  have HB := Lib.hid hb
  have HT := Lib.hid ht
  have HQ := Lib.hid (show w.heap.size ≤ q by omega)
  clear hb ht hbx hq
  refine wpList_run (v := .pointer (some ⟨q, 0, none⟩)) (wanted_none rfl) (gx_assign rfl rfl) ?_
  simp only [Act.put, List.setIfInBounds_toArray, List.set_cons_zero, List.set_cons_succ]
  go_upto_region 4 with fail
  refine wp_region_lit ?_
  refine wpList_run (v := .int .i64 0) (wanted_none rfl) (gx_assign rfl rfl) ?_
  simp only [Act.put, List.setIfInBounds_toArray, List.set_cons_zero, List.set_cons_succ]
  go_wp2_with fail
  go_loopg [5] n (fun gk iv wr => ∃ (k : Nat) (mv hv : Value) (rows : List (Value × List Value)), iv = .int .i64 (k : Int) ∧ k + gk = n ∧ Blk wr q 49 (refCells mv hv (.slice none 0 0) false false 0 0) ∧ Orw wr w.heap.size 3 1 mv (row1 ((zs.take k).map fun z => .int .i64 z)) ∧ ClX w wr (zs.map fun z => (.slice none 0 0, nils z.toNat)) rows hv k ∧ Turn nowhere w wr)
  case atStart => exact ⟨0, .slice none 0 0, .slice none 0 0, [], rfl, by omega, HB.out, Orw.nil _ _ _ _, ⟨Orw.nil _ _ _ _, rfl, fun j r2 hj => (by simp at hj), fun j m r r' b hj => (by simp at hj)⟩, HT.out⟩
  obtain ⟨k, mv, hv, rows, rfl, hgk, hbq, hmo, hcl, htr⟩ := hrel
  have HGK := Lib.hid hgk
  have HBQ := Lib.hid hbq
  have HMO := Lib.hid hmo
  have HCL := Lib.hid hcl
  have HTR := Lib.hid htr
  have yk : (k : Int) ≤ (n : Int) := by omega
  clear hgk hbq hmo hcl htr
  by_cases hlt : k < n
  · have HLT := Lib.hid hlt
    have y3 : (k : Int) < (n : Int) := by omega
    obtain ⟨z, hz⟩ := getQ' (l := zs) (i := k) (by have := HL.out; omega)
    have hzb := HA.out z (List.mem_of_getElem? hz)
    obtain ⟨zn, hzn⟩ : ∃ zn : Nat, (zn : Int) = z := ⟨z.toNat, by omega⟩
    subst hzn
    have y4 : ¬ (zn : Int) < 1 := by omega
    have y5 : ¬ 65536 < (zn : Int) := by omega
    have HZ := Lib.hid hz
    have HZB := Lib.hid (show 1 ≤ zn ∧ zn ≤ 65536 by omega)
    obtain ⟨okk, hokk⟩ : ∃ x, x = off + k * 1 := ⟨_, rfl⟩
    have HOK := Lib.hid hokk
    have HCW := Lib.hid (show w.cell? ⟨g, okk, none⟩ = some (.int .i64 (zn : Int)) from by
      rw [hokk, Nat.mul_one, HC.out k hlt, List.getD_eq_getElem?_getD, hz]
      rfl)
    have HCR := Lib.hid ((HTR.out.cell (p := ⟨g, okk, none⟩) HG.out fun e => e).trans HCW.out)
    obtain ⟨Am, cm, hmf, hmc, hmn, hmz, _⟩ := HMO.out.form
    have e8 : (row1 ((zs.take k).map fun z => Value.int .i64 z)).length = k := by rw [len_row1, List.length_map, List.length_take]; have := HL.out; omega
    rw [e8] at hmf
    subst hmf
    obtain ⟨A2, c2, hhv, _⟩ := HCL.out.has.form
    have e9 : (row1 (rows.map (·.1))).length = k := by rw [len_row1, List.length_map]; exact HCL.out.len
    rw [e9] at hhv
    subst hhv
    have HE8 := Lib.hid e8
    have HE9 := Lib.hid e9
    clear hz hzb hokk hmc hmn hmz hlt e8 e9
    go_upto_region 5 with fail
    refine wp_region_lit ?_
    refine wpList_run (v := .int .i64 (k : Int)) (wanted_none rfl) (exec_move rfl rfl) ?_
    simp only [Act.put, List.setIfInBounds_toArray, List.set_cons_zero, List.set_cons_succ]
    refine wpList_run (v := .slice (some ⟨g, off, none⟩) n cap) (wanted_none rfl) (exec_move rfl rfl) ?_
    simp only [Act.put, List.setIfInBounds_toArray, List.set_cons_zero, List.set_cons_succ]
    refine wpList_run (v := .int .i64 (n : Int)) (wanted_none rfl) (gx_len rfl rfl Try.underlying22) ?_
    simp only [Act.put, List.setIfInBounds_toArray, List.set_cons_zero, List.set_cons_succ]
    refine wpList_run (v := .bool true) (wanted_none rfl) (ix_lss rfl rfl rfl (decide_eq_true y3)) ?_
    simp only [Act.put, List.setIfInBounds_toArray, List.set_cons_zero, List.set_cons_succ]
    go_upto_region 7 with fail
    refine wp_region_lit ?_
    refine wpList_run (v := .slice (some ⟨g, off, none⟩) n cap) (wanted_none rfl) (exec_move rfl rfl) ?_
    simp only [Act.put, List.setIfInBounds_toArray, List.set_cons_zero, List.set_cons_succ]
    refine wpList_run (v := .int .i64 (k : Int)) (wanted_none rfl) (exec_move rfl rfl) ?_
    simp only [Act.put, List.setIfInBounds_toArray, List.set_cons_zero, List.set_cons_succ]
    refine wpList_run (v := .pointer (some ⟨g, okk, none⟩)) (wanted_none rfl) (by rw [HOK.out]; exact gx_iaddr (i := k) (sz := 1) rfl rfl rfl Try.underlying22 size_intN HLT.out rfl) ?_
    simp only [Act.put, List.setIfInBounds_toArray, List.set_cons_zero, List.set_cons_succ]
    refine wpList_run (v := .int .i64 (zn : Int)) (wanted_none rfl) (exec_load1 rfl rfl (by kernel_rfl) HCR.out) ?_
    simp only [Act.put, List.setIfInBounds_toArray, List.set_cons_zero, List.set_cons_succ]
    refine wpList_run (v := .bool false) (wanted_none rfl) (ix_lss rfl rfl rfl (decide_eq_false y4)) ?_
    simp only [Act.put, List.setIfInBounds_toArray, List.set_cons_zero, List.set_cons_succ]
    refine wpList_run (v := .bool false) (wanted_none rfl) (exec_move rfl rfl) ?_
    simp only [Act.put, List.setIfInBounds_toArray, List.set_cons_zero, List.set_cons_succ]
    refine wpList_run (v := .slice (some ⟨g, off, none⟩) n cap) rfl (exec_move rfl rfl) ?_
    simp only [Act.put, List.setIfInBounds_toArray, List.set_cons_zero, List.set_cons_succ]
    refine wpList_run (v := .int .i64 (k : Int)) rfl (exec_move rfl rfl) ?_
    simp only [Act.put, List.setIfInBounds_toArray, List.set_cons_zero, List.set_cons_succ]
    refine wpList_run (v := .pointer (some ⟨g, okk, none⟩)) rfl (by rw [HOK.out]; exact gx_iaddr (i := k) (sz := 1) rfl rfl rfl Try.underlying22 size_intN HLT.out rfl) ?_
    simp only [Act.put, List.setIfInBounds_toArray, List.set_cons_zero, List.set_cons_succ]
    refine wpList_run (v := .int .i64 (zn : Int)) rfl (exec_load1 rfl rfl (by kernel_rfl) HCR.out) ?_
    simp only [Act.put, List.setIfInBounds_toArray, List.set_cons_zero, List.set_cons_succ]
    refine wpList_run (v := .bool false) rfl (ix_gtr rfl rfl rfl (decide_eq_false y5)) ?_
    simp only [Act.put, List.setIfInBounds_toArray, List.set_cons_zero, List.set_cons_succ]
    refine wpList_run (v := .bool false) (wanted_none rfl) (ix_pickF rfl rfl rfl) ?_
    simp only [Act.put, List.setIfInBounds_toArray, List.set_cons_zero, List.set_cons_succ]
    obtain ⟨wd, hwd⟩ : ∃ v, v = wr.drew := ⟨_, rfl⟩
    have htd : Turn nowhere wr wd := by rw [hwd]; exact (Turn.refl _ _).drew
    have hta := (Turn.refl nowhere wd).alloc (.cells #[.int .i64 (zn : Int)] 3)
    have hmo9 := (HMO.out.still htd).still hta
    obtain ⟨A9, c9, w9, hrun9, ho9, hg9, _⟩ := orw_grow elmI (ty := 22) (B := w.heap.size) (news := [[.int .i64 (zn : Int)]]) (A := some ⟨wd.heap.size, 0, none⟩) (m := 1) (c := 1) hmo9 (Nat.le_trans HTR.out.size (Nat.le_trans htd.size hta.size)) (rws_one (et := 3) (r := [.int .i64 (zn : Int)]) rfl fun _ => trivial) (Fit.one rfl (fun u hu => by
      have hu : u ∈ [Value.int .i64 (zn : Int)] := hu
      rw [List.mem_singleton.1 hu]; rfl)) (fun e => by cases e) (by rw [HE8.out]; have := HLT.out; have := HN4.out; omega)
    rw [HE8.out] at hrun9 ho9
    have ht9 : Turn (fun b => (Value.slice Am k cm).ownBlock = some b) (wd.alloc (.cells #[.int .i64 (zn : Int)] 3)) w9 := (Turn.refl _ _).grown hg9 fun b e _ => e
    have HRUN9 := Lib.hid hrun9
    have HO9 := Lib.hid ho9
    have HBO := Lib.hid (build_one elmI [.int .i64 (zn : Int)] rfl (by decide) (.int .i64 (zn : Int)) rfl wd)
    have hqa := (HBQ.out.turn htd fun e => e).alloc (.cells #[.int .i64 (zn : Int)] 3)
    have HQ9 := Lib.hid (hqa.turn ht9 fun e => by
      obtain ⟨cu, hcu⟩ := hmo9.own_blk e
      exact absurd (blk_ty hqa hcu) (by decide))
    have HT9 := Lib.hid (show Turn nowhere w w9 from ((HTR.out.trans htd fun _ _ e => e).trans hta (fun _ _ e => e)).trans ht9 fun b hb e => by have := (hmo9.lt e).1; omega)
    have HCL9 := Lib.hid ((((HCL.out.turn htd fun _ _ _ _ _ e => e).turn hta fun _ _ _ _ _ e => e)).turn ht9 fun b t cs h1 h2 e => by
      obtain ⟨cu, hcu⟩ := hmo9.own_blk e
      have := blk_ty h1 hcu
      subst this
      rcases h2 with h2 | h2 <;> revert h2 <;> decide)
    clear hrun9 ho9 hg9 ht9 hmo9 hqa
    go_upto_region 9 with fail
    refine wp_region_till (fun W => Blk W q 49 (refCells (.slice Am k cm) (.slice A2 k c2) (.slice none 0 0) false false 0 0) ∧ W.cell? ⟨g, okk, none⟩ = some (.int .i64 (zn : Int))) 11 (by kernel_rfl) ?_
    rw [← hwd]
    have hS0 : Blk wd q 49 (refCells (.slice Am k cm) (.slice A2 k c2) (.slice none 0 0) false false 0 0) ∧ wd.cell? ⟨g, okk, none⟩ = some (.int .i64 (zn : Int)) := ⟨HBQ.out.turn htd fun e => e, (htd.cell (World.block_lt_of_cell? _ _ HCR.out) fun e => e).trans HCR.out⟩
    clear hwd
    refine till_take (i := 0) (v := .pointer (some ⟨q, 0, none⟩)) rfl (by kernel_rfl) (by kernel_rfl) (fun _ _ _ h => h) (.inl ⟨by rfl, fun W hW => exec_move rfl rfl⟩) hS0 ?_
    simp only [Act.put, List.setIfInBounds_toArray, List.set_cons_zero, List.set_cons_succ]
    refine till_take (i := 1) (v := .pointer (some ⟨q, 0, none⟩)) rfl (by kernel_rfl) (by kernel_rfl) (fun _ _ _ h => h) (.inl ⟨by rfl, fun W hW => exec_move rfl rfl⟩) hS0 ?_
    simp only [Act.put, List.setIfInBounds_toArray, List.set_cons_zero, List.set_cons_succ]
    refine till_take (i := 2) (v := .pointer (some ⟨q, 0, none⟩)) rfl (by kernel_rfl) (by kernel_rfl) (fun _ _ _ h => h) (.inl ⟨by rfl, fun W hW => exec_nil rfl rfl⟩) hS0 ?_
    simp only [Act.put, List.setIfInBounds_toArray, List.set_cons_zero, List.set_cons_succ]
    refine till_take (i := 3) (v := .pointer (some ⟨q, 0, none⟩)) rfl (by kernel_rfl) (by kernel_rfl) (fun _ _ _ h => h) (.inl ⟨by rfl, fun W hW => exec_field (off := 0) (d := 0) rfl rfl (by kernel_rfl)⟩) hS0 ?_
    simp only [Act.put, List.setIfInBounds_toArray, List.set_cons_zero, List.set_cons_succ]
    refine till_take (i := 4) (v := .slice Am k cm) rfl (by kernel_rfl) (by kernel_rfl) (fun _ _ _ h => h) (.inl ⟨by rfl, fun W hW => exec_load1 rfl rfl (by kernel_rfl) (hW.1.cell 0)⟩) hS0 ?_
    simp only [Act.put, List.setIfInBounds_toArray, List.set_cons_zero, List.set_cons_succ]
    refine till_take (i := 5) (v := .slice (some ⟨g, off, none⟩) n cap) rfl (by kernel_rfl) (by kernel_rfl) (fun _ _ _ h => h) (.inl ⟨by rfl, fun W hW => exec_move rfl rfl⟩) hS0 ?_
    simp only [Act.put, List.setIfInBounds_toArray, List.set_cons_zero, List.set_cons_succ]
    refine till_take (i := 6) (v := .int .i64 (k : Int)) rfl (by kernel_rfl) (by kernel_rfl) (fun _ _ _ h => h) (.inl ⟨by rfl, fun W hW => exec_move rfl rfl⟩) hS0 ?_
    simp only [Act.put, List.setIfInBounds_toArray, List.set_cons_zero, List.set_cons_succ]
    refine till_take (i := 7) (v := .pointer (some ⟨g, okk, none⟩)) rfl (by kernel_rfl) (by kernel_rfl) (fun _ _ _ h => h) (.inl ⟨by rfl, fun W hW => by rw [HOK.out]; exact gx_iaddr (i := k) (sz := 1) rfl rfl rfl Try.underlying22 size_intN HLT.out rfl⟩) hS0 ?_
    simp only [Act.put, List.setIfInBounds_toArray, List.set_cons_zero, List.set_cons_succ]
    refine till_take (i := 8) (v := .int .i64 (zn : Int)) rfl (by kernel_rfl) (by kernel_rfl) (fun _ _ _ h => h) (.inl ⟨by rfl, fun W hW => exec_load1 rfl rfl (by kernel_rfl) hW.2⟩) hS0 ?_
    simp only [Act.put, List.setIfInBounds_toArray, List.set_cons_zero, List.set_cons_succ]
    refine till_step (i := 9) (by kernel_rfl) rfl rfl ?_
    intro K1 HK1
    refine wp_run (v := .slice (some ⟨wd.heap.size, 0, none⟩) 1 1) (w' := wd.alloc (.cells #[.int .i64 (zn : Int)] 3)) (exec_buildSlice1 rfl rfl HBO.out) ?_
    refine HK1.out _ _ ⟨fun _ => ⟨hS0.1.turn hta fun e => e, (hta.cell (World.block_lt_of_cell? _ _ hS0.2) fun e => e).trans hS0.2⟩, ?_⟩
    clear HK1
    try simp only [Act.put, List.setIfInBounds_toArray, List.set_cons_zero, List.set_cons_succ]
    have hS9 : Blk w9 q 49 (refCells (.slice Am k cm) (.slice A2 k c2) (.slice none 0 0) false false 0 0) ∧ w9.cell? ⟨g, okk, none⟩ = some (.int .i64 (zn : Int)) := ⟨HQ9.out, (HT9.out.cell (p := ⟨g, okk, none⟩) HG.out fun e => e).trans HCW.out⟩
    refine till_step (i := 10) (by kernel_rfl) rfl rfl ?_
    intro K1 HK1
    refine wp_run (v := .slice A9 (k + 1) c9) (w' := w9) (exec_append rfl rfl rfl HRUN9.out) ?_
    refine HK1.out _ _ ⟨fun _ => hS9, ?_⟩
    clear HK1
    try simp only [Act.put, List.setIfInBounds_toArray, List.set_cons_zero, List.set_cons_succ]
    refine till_tail 11 rfl (by kernel_rfl) ?_
    clear hS0 hS9 htd hta
    refine wpList_run (v := .pointer (some ⟨q, 0, none⟩)) (wanted_none rfl) (exec_nil rfl rfl) ?_
    simp only [Act.put, List.setIfInBounds_toArray, List.set_cons_zero, List.set_cons_succ]
    refine wpList_run (v := .pointer (some ⟨q, 0, none⟩)) (wanted_none rfl) (exec_field (off := 0) (d := 0) rfl rfl (by kernel_rfl)) ?_
    simp only [Act.put, List.setIfInBounds_toArray, List.set_cons_zero, List.set_cons_succ]
    refine wpList_storeU 0 (.slice A9 (k + 1) c9) (wanted_none rfl) 22 _ _ rfl HQ9.out rfl rfl (by show 0 < 7; omega) ⟨rfl, rfl⟩ (by kernel_rfl) ?_
    intro w10 hb10 ht10
    simp only [Act.put, List.setIfInBounds_toArray, List.set_cons_zero, List.set_cons_succ]
    refine NoPanic.normal ?_
    have hb10 : Blk w10 q 49 (refCells (.slice A9 (k + 1) c9) (.slice A2 k c2) (.slice none 0 0) false false 0 0) := hb10
    have HB10 := Lib.hid hb10
    have HCL10 := Lib.hid (HCL9.out.turn ht10 fun b t cs h1 h2 e => by
      have h3 : b = q := e
      subst h3
      have := blk_ty h1 HQ9.out
      subst this
      rcases h2 with h2 | h2 <;> revert h2 <;> decide)
    have HM10 := Lib.hid (show Orw w10 w.heap.size 3 1 (.slice A9 (k + 1) c9) (row1 ((zs.take (k + 1)).map fun z => .int .i64 z)) from by
      have e : row1 ((zs.take (k + 1)).map fun z => Value.int .i64 z) = row1 ((zs.take k).map fun z => Value.int .i64 z) ++ [[.int .i64 (zn : Int)]] := by
        rw [List.take_add_one, HZ.out, List.map_append, row1_app]
        rfl
      rw [e]
      exact HO9.out.turn ht10 fun b hb e => by
        obtain ⟨cu, hcu⟩ := HO9.out.own_blk hb
        exact hcu.notOnly HQ9.out (by decide) e)
    have HT10 := Lib.hid (HT9.out.trans ht10 fun b hb e => by have h1 : b = q := e; have := HQ.out; omega)
    clear hb10 ht10 HRUN9 HO9 HBO HQ9 HT9 HCL9
    obtain ⟨wd, hwd⟩ : ∃ v, v = w10.drew := ⟨_, rfl⟩
    have htd : Turn nowhere w10 wd := by rw [hwd]; exact (Turn.refl _ _).drew
    have hcld := HCL10.out.turn htd fun _ _ _ _ _ e => e
    obtain ⟨w8, hrun8, ho8, ht8⟩ := made_row wd zn HZB.out.2
    have hta := (Turn.refl nowhere w8).alloc (.cells #[.slice (some ⟨wd.heap.size, 0, none⟩) zn zn] 60)
    have hcl8 := ((hcld.turn ht8 fun _ _ _ _ _ e => e).turn hta fun _ _ _ _ _ e => e)
    obtain ⟨A7, c7, w7, hrun7, ho7, hg7, _⟩ := orw_grow elmH (ty := 46) (B := w.heap.size) (news := [[.slice (some ⟨wd.heap.size, 0, none⟩) zn zn]]) (A := some ⟨w8.heap.size, 0, none⟩) (m := 1) (c := 1) hcl8.has (Nat.le_trans HT10.out.size (Nat.le_trans htd.size (Nat.le_trans ht8.size hta.size))) (rws_one (et := 60) (r := [.slice (some ⟨wd.heap.size, 0, none⟩) zn zn]) rfl fun _ => trivial) (Fit.one rfl (fun u hu => by
      have hu : u ∈ [Value.slice (some ⟨wd.heap.size, 0, none⟩) zn zn] := hu
      rw [List.mem_singleton.1 hu]; rfl)) (fun e => by cases e) (by rw [HE9.out]; have := HLT.out; have := HN4.out; omega)
    rw [HE9.out] at hrun7 ho7
    have ht7 : Turn (fun b => (Value.slice A2 k c2).ownBlock = some b) (w8.alloc (.cells #[.slice (some ⟨wd.heap.size, 0, none⟩) zn zn] 60)) w7 := (Turn.refl _ _).grown hg7 fun b e _ => e
    have hzz : (zs.map fun z => ((Value.slice none 0 0, nils z.toNat) : Value × List Value))[k]? = some (.slice none 0 0, nils zn) := by
      rw [List.getElem?_map, HZ.out]
      rfl
    have HCL7 := Lib.hid (ClX.more (r := (.slice none 0 0, nils zn)) hcld (Nat.le_trans HT10.out.size htd.size) hzz ht8 ho8 hta ht7 ho7)
    have HRUN8 := Lib.hid hrun8
    have HRUN7 := Lib.hid hrun7
    have HO7 := Lib.hid ho7
    have HBO := Lib.hid (build_one elmH [.slice (some ⟨wd.heap.size, 0, none⟩) zn zn] rfl (by decide) (.slice (some ⟨wd.heap.size, 0, none⟩) zn zn) rfl w8)
    have hqd := HB10.out.turn htd fun e => e
    have hq8 := hqd.turn ht8 fun e => e
    have hqa := hq8.alloc (.cells #[.slice (some ⟨wd.heap.size, 0, none⟩) zn zn] 60)
    have hfar : ∀ b, (Value.slice A2 k c2).ownBlock = some b → ∃ cu, Blk (w8.alloc (.cells #[.slice (some ⟨wd.heap.size, 0, none⟩) zn zn] 60)) b 60 cu := fun b e => hcl8.has.own_blk e
    have HQ7 := Lib.hid (hqa.turn ht7 fun e => by
      obtain ⟨cu, hcu⟩ := hfar _ e
      exact absurd (blk_ty hqa hcu) (by decide))
    have hma := ((HM10.out.still htd).still ht8).still hta
    have HM7 := Lib.hid (hma.turn ht7 fun b hb e => by
      obtain ⟨cu, hcu⟩ := hfar _ e
      obtain ⟨cu2, hcu2⟩ := hma.own_blk hb
      exact absurd (blk_ty hcu2 hcu) (by decide))
    have HT7 := Lib.hid (show Turn nowhere w w7 from ((HT10.out.trans htd fun _ _ e => e).trans ht8 fun _ _ e => e).trans hta (fun _ _ e => e) |>.trans ht7 fun b hb e => by have := (hcl8.has.lt e).1; omega)
    clear hrun8 ho8 hrun7 ho7 hg7 ht7 hcl8 hqa hma hfar hzz hcld
    go_upto_region 10 with fail
    refine wp_region_till (fun W => Blk W q 49 (refCells (.slice A9 (k + 1) c9) (.slice A2 k c2) (.slice none 0 0) false false 0 0) ∧ W.cell? ⟨g, okk, none⟩ = some (.int .i64 (zn : Int))) 12 (by kernel_rfl) ?_
    rw [← hwd]
    have hS0 : Blk wd q 49 (refCells (.slice A9 (k + 1) c9) (.slice A2 k c2) (.slice none 0 0) false false 0 0) ∧ wd.cell? ⟨g, okk, none⟩ = some (.int .i64 (zn : Int)) := ⟨hqd, ((HT10.out.trans htd fun _ _ e => e).cell (p := ⟨g, okk, none⟩) HG.out fun e => e).trans HCW.out⟩
    clear hwd
    refine till_take (i := 0) (v := .pointer (some ⟨q, 0, none⟩)) rfl (by kernel_rfl) (by kernel_rfl) (fun _ _ _ h => h) (.inl ⟨by rfl, fun W hW => exec_move rfl rfl⟩) hS0 ?_
    simp only [Act.put, List.setIfInBounds_toArray, List.set_cons_zero, List.set_cons_succ]
    refine till_take (i := 1) (v := .pointer (some ⟨q, 0, none⟩)) rfl (by kernel_rfl) (by kernel_rfl) (fun _ _ _ h => h) (.inl ⟨by rfl, fun W hW => exec_move rfl rfl⟩) hS0 ?_
    simp only [Act.put, List.setIfInBounds_toArray, List.set_cons_zero, List.set_cons_succ]
    refine till_take (i := 2) (v := .pointer (some ⟨q, 0, none⟩)) rfl (by kernel_rfl) (by kernel_rfl) (fun _ _ _ h => h) (.inl ⟨by rfl, fun W hW => exec_nil rfl rfl⟩) hS0 ?_
    simp only [Act.put, List.setIfInBounds_toArray, List.set_cons_zero, List.set_cons_succ]
    refine till_take (i := 3) (v := .pointer (some ⟨q, 1, none⟩)) rfl (by kernel_rfl) (by kernel_rfl) (fun _ _ _ h => h) (.inl ⟨by rfl, fun W hW => exec_field (off := 0) (d := 1) rfl rfl (by kernel_rfl)⟩) hS0 ?_
    simp only [Act.put, List.setIfInBounds_toArray, List.set_cons_zero, List.set_cons_succ]
    refine till_take (i := 4) (v := .slice A2 k c2) rfl (by kernel_rfl) (by kernel_rfl) (fun _ _ _ h => h) (.inl ⟨by rfl, fun W hW => exec_load1 rfl rfl (by kernel_rfl) (hW.1.cell 1)⟩) hS0 ?_
    simp only [Act.put, List.setIfInBounds_toArray, List.set_cons_zero, List.set_cons_succ]
    refine till_take (i := 5) (v := .slice (some ⟨g, off, none⟩) n cap) rfl (by kernel_rfl) (by kernel_rfl) (fun _ _ _ h => h) (.inl ⟨by rfl, fun W hW => exec_move rfl rfl⟩) hS0 ?_
    simp only [Act.put, List.setIfInBounds_toArray, List.set_cons_zero, List.set_cons_succ]
    refine till_take (i := 6) (v := .int .i64 (k : Int)) rfl (by kernel_rfl) (by kernel_rfl) (fun _ _ _ h => h) (.inl ⟨by rfl, fun W hW => exec_move rfl rfl⟩) hS0 ?_
    simp only [Act.put, List.setIfInBounds_toArray, List.set_cons_zero, List.set_cons_succ]
    refine till_take (i := 7) (v := .pointer (some ⟨g, okk, none⟩)) rfl (by kernel_rfl) (by kernel_rfl) (fun _ _ _ h => h) (.inl ⟨by rfl, fun W hW => by rw [HOK.out]; exact gx_iaddr (i := k) (sz := 1) rfl rfl rfl Try.underlying22 size_intN HLT.out rfl⟩) hS0 ?_
    simp only [Act.put, List.setIfInBounds_toArray, List.set_cons_zero, List.set_cons_succ]
    refine till_take (i := 8) (v := .int .i64 (zn : Int)) rfl (by kernel_rfl) (by kernel_rfl) (fun _ _ _ h => h) (.inl ⟨by rfl, fun W hW => exec_load1 rfl rfl (by kernel_rfl) hW.2⟩) hS0 ?_
    simp only [Act.put, List.setIfInBounds_toArray, List.set_cons_zero, List.set_cons_succ]
    have hS8 : Blk w8 q 49 (refCells (.slice A9 (k + 1) c9) (.slice A2 k c2) (.slice none 0 0) false false 0 0) ∧ w8.cell? ⟨g, okk, none⟩ = some (.int .i64 (zn : Int)) := ⟨hq8, (ht8.cell (World.block_lt_of_cell? _ _ hS0.2) fun e => e).trans hS0.2⟩
    refine till_step (i := 9) (by kernel_rfl) rfl rfl ?_
    intro K1 HK1
    refine wp_run (v := .slice (some ⟨wd.heap.size, 0, none⟩) zn zn) (w' := w8) (gx_make rfl rfl rfl HRUN8.out) ?_
    refine HK1.out _ _ ⟨fun _ => hS8, ?_⟩
    clear HK1
    try simp only [Act.put, List.setIfInBounds_toArray, List.set_cons_zero, List.set_cons_succ]
    refine till_step (i := 10) (by kernel_rfl) rfl rfl ?_
    intro K1 HK1
    refine wp_run (v := .slice (some ⟨w8.heap.size, 0, none⟩) 1 1) (w' := w8.alloc (.cells #[.slice (some ⟨wd.heap.size, 0, none⟩) zn zn] 60)) (exec_buildSlice1 rfl rfl HBO.out) ?_
    refine HK1.out _ _ ⟨fun _ => ⟨hS8.1.turn hta fun e => e, (hta.cell (World.block_lt_of_cell? _ _ hS8.2) fun e => e).trans hS8.2⟩, ?_⟩
    clear HK1
    try simp only [Act.put, List.setIfInBounds_toArray, List.set_cons_zero, List.set_cons_succ]
    have hS7 : Blk w7 q 49 (refCells (.slice A9 (k + 1) c9) (.slice A2 k c2) (.slice none 0 0) false false 0 0) ∧ w7.cell? ⟨g, okk, none⟩ = some (.int .i64 (zn : Int)) := ⟨HQ7.out, (HT7.out.cell (p := ⟨g, okk, none⟩) HG.out fun e => e).trans HCW.out⟩
    refine till_step (i := 11) (by kernel_rfl) rfl rfl ?_
    intro K1 HK1
    refine wp_run (v := .slice A7 (k + 1) c7) (w' := w7) (exec_append rfl rfl rfl HRUN7.out) ?_
    refine HK1.out _ _ ⟨fun _ => hS7, ?_⟩
    clear HK1
    try simp only [Act.put, List.setIfInBounds_toArray, List.set_cons_zero, List.set_cons_succ]
    refine till_tail 12 rfl (by kernel_rfl) ?_
    clear hS0 hS8 hS7 htd hta ht8 hqd hq8
    refine wpList_run (v := .pointer (some ⟨q, 0, none⟩)) (wanted_none rfl) (exec_nil rfl rfl) ?_
    simp only [Act.put, List.setIfInBounds_toArray, List.set_cons_zero, List.set_cons_succ]
    refine wpList_run (v := .pointer (some ⟨q, 1, none⟩)) (wanted_none rfl) (exec_field (off := 0) (d := 1) rfl rfl (by kernel_rfl)) ?_
    simp only [Act.put, List.setIfInBounds_toArray, List.set_cons_zero, List.set_cons_succ]
    refine wpList_storeU 1 (.slice A7 (k + 1) c7) (wanted_none rfl) 46 _ _ rfl HQ7.out rfl rfl (by show 1 < 7; omega) ⟨rfl, rfl⟩ (by kernel_rfl) ?_
    intro w11 hb11 ht11
    simp only [Act.put, List.setIfInBounds_toArray, List.set_cons_zero, List.set_cons_succ]
    refine NoPanic.normal ?_
    have hb11 : Blk w11 q 49 (refCells (.slice A9 (k + 1) c9) (.slice A7 (k + 1) c7) (.slice none 0 0) false false 0 0) := hb11
    have HB11 := Lib.hid hb11
    have HCL11 := Lib.hid (HCL7.out.turn ht11 fun b t cs h1 h2 e => by
      have h3 : b = q := e
      subst h3
      have := blk_ty h1 HQ7.out
      subst this
      rcases h2 with h2 | h2 <;> revert h2 <;> decide)
    have HM11 := Lib.hid (HM7.out.turn ht11 fun b hb e => by
      obtain ⟨cu, hcu⟩ := HM7.out.own_blk hb
      exact hcu.notOnly HQ7.out (by decide) e)
    have HT11 := Lib.hid (HT7.out.trans ht11 fun b hb e => by have h1 : b = q := e; have := HQ.out; omega)
    clear hb11 ht11
    go_upto_region 6 with fail
    refine wp_region_lit ?_
    refine wpList_run (v := .int .i64 (k : Int)) (wanted_none rfl) (exec_move rfl rfl) ?_
    simp only [Act.put, List.setIfInBounds_toArray, List.set_cons_zero, List.set_cons_succ]
    refine wpList_run (v := .int .i64 ((k + 1 : Nat) : Int)) (wanted_none rfl) (ix_add rfl rfl rfl (by omega) (by omega)) ?_
    simp only [Act.put, List.setIfInBounds_toArray, List.set_cons_zero, List.set_cons_succ]
    refine wpList_run (v := .int .i64 ((k + 1 : Nat) : Int)) (wanted_none rfl) (gx_assign rfl rfl) ?_
    simp only [Act.put, List.setIfInBounds_toArray, List.set_cons_zero, List.set_cons_succ]
    go_wp2_with fail
    go_roundg (n - (k + 1))
    case measure => have := HGK.out; have := HLT.out; omega
    case rel => exact ⟨k + 1, _, _, _, rfl, by have := HLT.out; omega, HB11.out, HM11.out, HCL11.out, HT11.out⟩
  · obtain rfl : n = k := by have := HGK.out; omega
    clear hlt
    have hzl : zs.length = n := HL.out
    have HF := Lib.hid (show ∃ q2 G Z, (Ending.returned (.tuple #[.pointer (some ⟨q, 0, none⟩), .int .i64 0]) : Ending) = .returned (.tuple #[.pointer (some ⟨q2, 0, none⟩), .int .i64 0]) ∧ RAt wr q2 G Z (RP.new zs) ∧ (∀ b, G b → w.heap.size ≤ b) ∧ (∀ b, Z b → w.heap.size ≤ b) ∧ Turn nowhere w wr from ⟨q, RG q rows (.slice none 0 0), fun b => mv.ownBlock = some b ∨ hv.ownBlock = some b, rfl, ⟨mv, hv, .slice none 0 0, zs, rows, [], {
        blk := HBQ.out
        most := by
          have h := HMO.out
          rw [List.take_of_length_le (by omega)] at h
          exact h.less (Nat.zero_le _)
        zlen := by simp [RP.new]
        zat := fun i e he => by
          simp only [RP.new, List.getElem?_map, Option.map_eq_some_iff] at he
          obtain ⟨z, hz, rfl⟩ := he
          rw [hz]
          have := HA.out z (List.mem_of_getElem? hz)
          simp only [Option.some.injEq]
          omega
        has := HCL.out.has.less (Nat.zero_le _)
        hlen := by rw [HCL.out.len]; simp [RP.new, hzl]
        row := fun j r e hr he => by
          obtain ⟨r0, h1, h2, h3⟩ := HCL.out.row j r hr
          simp only [RP.new, List.getElem?_map, Option.map_eq_some_iff] at he
          obtain ⟨z, hz, rfl⟩ := he
          rw [List.getElem?_map, hz] at h1
          injection h1 with h1
          subst h1
          refine ⟨by rw [h2]; exact List.length_replicate, h3.less (Nat.zero_le _), fun m u hu => ?_⟩
          rw [h2] at hu
          have := (List.mem_replicate.1 (List.mem_of_getElem? hu)).2
          subst this
          exact ⟨.inl ⟨rfl, rfl⟩, fun b hb => by cases hb⟩
        ne := HCL.out.ne
        wts := Orw.nil _ _ _ _
        wr := rfl
        wsec := fun x hx => by cases hx
        wok := fun x hx => by cases hx
        zm := fun b hb => .inl hb
        zh := fun b hb => .inr hb
        zlt := fun b hb => hb.elim (fun hb => (HMO.out.lt hb).2) fun hb => (HCL.out.has.lt hb).2
        d1 := by have := HN4.out; simp only [RP.new, List.length_map]; omega
        sz := fun e he => by
          simp only [RP.new, List.mem_map] at he
          obtain ⟨z, hz, rfl⟩ := he
          have := HA.out z hz
          simp only
          omega }, rfl⟩, (fun b hb => by
      rcases hb with rfl | ⟨r, hr, hb⟩ | hb
      · exact HQ.out
      · obtain ⟨j, hj⟩ := List.mem_iff_getElem?.1 hr
        obtain ⟨_, _, _, h3⟩ := HCL.out.row j r hj
        exact (h3.lt hb).1
      · cases hb), fun b hb => hb.elim (fun hb => (HMO.out.lt hb).1) fun hb => (HCL.out.has.lt hb).1, HTR.out⟩)
    go_upto_region 5 with fail
    refine wp_region_lit ?_
    refine wpList_run (v := .int .i64 (n : Int)) (wanted_none rfl) (exec_move rfl rfl) ?_
    simp only [Act.put, List.setIfInBounds_toArray, List.set_cons_zero, List.set_cons_succ]
    refine wpList_run (v := .slice (some ⟨g, off, none⟩) n cap) (wanted_none rfl) (exec_move rfl rfl) ?_
    simp only [Act.put, List.setIfInBounds_toArray, List.set_cons_zero, List.set_cons_succ]
    refine wpList_run (v := .int .i64 (n : Int)) (wanted_none rfl) (gx_len rfl rfl Try.underlying22) ?_
    simp only [Act.put, List.setIfInBounds_toArray, List.set_cons_zero, List.set_cons_succ]
    refine wpList_run (v := .bool false) (wanted_none rfl) (ix_lss rfl rfl rfl (decide_eq_false (by omega))) ?_
    simp only [Act.put, List.setIfInBounds_toArray, List.set_cons_zero, List.set_cons_succ]
    go_upto_region 11 with fail
    refine wp_region_lit ?_
    refine wpList_run (v := .pointer (some ⟨q, 0, none⟩)) (wanted_none rfl) (exec_move rfl rfl) ?_
    simp only [Act.put, List.setIfInBounds_toArray, List.set_cons_zero, List.set_cons_succ]
    refine wpList_run (v := .pointer (some ⟨q, 0, none⟩)) (wanted_none rfl) (gx_assign rfl rfl) ?_
    simp only [Act.put, List.setIfInBounds_toArray, List.set_cons_zero, List.set_cons_succ]
    refine wpList_run (v := .int .i64 0) (wanted_none rfl) (gx_assign rfl rfl) ?_
    simp only [Act.put, List.setIfInBounds_toArray, List.set_cons_zero, List.set_cons_succ]
    go_wp2_with fail
    go_ret2
    exact HF.out
end Go.Proofs.Yteedjfgandgbkaa
