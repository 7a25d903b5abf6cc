/-
  The reference plant's New. No conditions.
-/
import Derived.Test.YteedjfgandgbkaaRfB
import Derived.Test.YteedjfgandgbkaaJa0
namespace Go.Proofs.Yteedjfgandgbkaa
open Go.RowKit Go.Maps
set_option linter.unusedVariables false
theorem info_int : (Try.prog.info? 3).map (fun i => (i.zero, i.size, i.bytes)) = some (some (.int .i64 0), 1, 8) := by kernel_rfl
def rCells (mv hv : Value) : Array Value := refCells mv hv (.slice none 0 0) false false 0 0
structure RN (p : Nat) (w : World) (mv hv : Value) (zs : List Int) (k j : Nat) : Prop where
  mo : w.ownsRow p 3 1 mv k ((zs.take k).map fun z => Value.int .i64 z)
  ho : ∃ xs, w.ownsRow p 60 1 hv j xs
  top : Blk w p 49 (rCells mv hv)
theorem rn9 {p : Nat} {w wr w5 : World} {mv hv v5 : Value} {zs : List Int} {k : Nat} {z : Int} (h : RN p wr mv hv zs k k) (hT : Turn nowhere w wr) (hp : p = w.heap.size) (hk : k < zs.length) (hz : zs.getD k 0 = z)
    (ho : w5.ownsRow p 3 1 v5 (k + 1) ((zs.take k).map (fun z => Value.int .i64 z) ++ [Value.int .i64 z])) (hg : (wr.drew.alloc (.cells #[.int .i64 z] 3)).grownBy w5 mv.ownBlock) :
    Blk w5 p 49 (rCells mv hv) ∧ Turn nowhere w w5 ∧ RN p (w5.setCell ⟨p, 0, none⟩ v5) v5 hv zs (k + 1) k ∧ Turn nowhere w (w5.setCell ⟨p, 0, none⟩ v5) := by
  have hP4 : Blk (wr.drew.alloc (.cells #[.int .i64 z] 3)) p 49 (rCells mv hv) := h.top.drew.alloc _
  have hP5 := hP4.grown hg (row_ne h.mo h.top (by decide))
  have hT5 : Turn nowhere w w5 := (hT.drew.alloc (.cells #[.int .i64 z] 3)).grown hg (fun b e hb => by
    have := (h.mo.lt b e).1
    omega)
  refine ⟨hP5, hT5, ⟨?_, ?_, ?_⟩, hT5.setCell (p := ⟨p, 0, none⟩) (fun hb => by have hb' : p < w.heap.size := hb; omega) _⟩
  · have e : (zs.take (k + 1)).map (fun z => Value.int .i64 z) = (zs.take k).map (fun z => Value.int .i64 z) ++ [Value.int .i64 z] := by
      rw [List.take_add_one, List.map_append, List.getElem?_eq_getElem hk]
      rw [List.getD_eq_getElem?_getD, List.getElem?_eq_getElem hk] at hz
      simp at hz
      simp [hz]
    rw [e]
    exact row_keep ho fun b hb => heap_setCell_other w5 ⟨p, 0, none⟩ b v5 (fun e => row_ne ho hP5 (by decide) (by rw [hb]; exact congrArg some e.symm))
  · obtain ⟨xs, hx⟩ := h.ho
    refine ⟨xs, row_keep hx fun b hb => ?_⟩
    have hbl := (hx.lt b hb).2
    have hbp : b ≠ p := fun e => row_ne hx h.top (by decide) (by rw [hb, e])
    refine (heap_setCell_other w5 ⟨p, 0, none⟩ b v5 hbp).trans ((hg.block b (by simp; omega) (fun e => ?_)).trans (Below.heap_alloc wr.drew _ b hbl))
    rcases h.mo.2 with ⟨e1, _⟩ | ⟨g', cap, cur, e1, _, h4, _⟩
    · rw [e1] at e
      cases e
    · rw [e1] at e
      have e2 : b = g' := Option.some.inj e
      exact row_ne (t := 3) (cs := cur) hx h4 (by decide) (by rw [hb, e2])
  · exact hP5.set_ 0 v5
theorem info_bytes : (Try.prog.info? 36).map (fun i => (i.zero, i.size, i.bytes)) = some (some (.slice none 0 0), 1, 24) := by kernel_rfl
theorem info_rows : (Try.prog.info? 60).map (fun i => (i.zero, i.size, i.bytes)) = some (some (.slice none 0 0), 1, 24) := by kernel_rfl
theorem exec_makeV {P : Program} {a : Act} {o : Oper} {t : TypeId} {x y : Operand} {u u' v : Value} {W W' : World} (ho : o.op = .makeSlice t x y) (hx : a.eval x = u) (hy : a.eval y = u') (h : (Instr.makeSlice t u u').run P W = .ok v W') : (execOp a.eval o).run P W = .ok (.value v) W' := by
  unfold execOp
  simp only [ho, hx, hy, h, Sem.run_bind, Sem.run_pure, Result.andThen_ok]
theorem rn10 {p : Nat} {w wr w5 : World} {O1 O2 : Obj} {mv hv v5 : Value} {zs : List Int} {k j : Nat} {xs : List Value} (h : RN p wr mv hv zs j k) (hT : Turn nowhere w wr) (hp : p = w.heap.size)
    (ho : w5.ownsRow p 60 1 v5 (k + 1) xs) (hg : ((wr.drew.alloc O1).alloc O2).grownBy w5 hv.ownBlock) :
    Blk w5 p 49 (rCells mv hv) ∧ Turn nowhere w w5 ∧ RN p (w5.setCell ⟨p, 1, none⟩ v5) mv v5 zs j (k + 1) ∧ Turn nowhere w (w5.setCell ⟨p, 1, none⟩ v5) := by
  have hP4 : Blk ((wr.drew.alloc O1).alloc O2) p 49 (rCells mv hv) := (h.top.drew.alloc _).alloc _
  obtain ⟨ys, hx⟩ := h.ho
  have hP5 := hP4.grown hg (row_ne hx h.top (by decide))
  have hT5 : Turn nowhere w w5 := ((hT.drew.alloc O1).alloc O2).grown hg (fun b e hb => by
    have := (hx.lt b e).1
    omega)
  refine ⟨hP5, hT5, ⟨?_, ?_, ?_⟩, hT5.setCell (p := ⟨p, 1, none⟩) (fun hb => by have hb' : p < w.heap.size := hb; omega) _⟩
  · refine row_keep h.mo fun b hb => ?_
    have hbl := (h.mo.lt b hb).2
    have hbp : b ≠ p := fun e => row_ne h.mo h.top (by decide) (by rw [hb, e])
    refine (heap_setCell_other w5 ⟨p, 1, none⟩ b v5 hbp).trans ((hg.block b (by simp; omega) (fun e => ?_)).trans ((Below.heap_alloc _ _ b (by simp; omega)).trans (Below.heap_alloc wr.drew _ b hbl)))
    rcases hx.2 with ⟨e1, _⟩ | ⟨g', cap, cur, e1, _, h4, _⟩
    · rw [e1] at e
      cases e
    · rw [e1] at e
      have e2 : b = g' := Option.some.inj e
      exact row_ne (t := 60) (cs := cur) h.mo h4 (by decide) (by rw [hb, e2])
  · exact ⟨xs, row_keep ho fun b hb => heap_setCell_other w5 ⟨p, 1, none⟩ b v5 (fun e => row_ne ho hP5 (by decide) (by rw [hb]; exact congrArg some e.symm))⟩
  · exact hP5.set_ 1 v5
set_option maxHeartbeats 1000000 in
theorem rnew_walk {w : World} (a : Option Addr) (len cap : Nat) (zs : List Int) (hz : Ks w nowhere a len zs) (h1 : 1 ≤ len) (h4 : len ≤ 4) :
    Calls Try.prog 6 #[.slice a len cap] w fun e w' => 
      (sizesOk zs ∧ ∃ p mv hv, e = .returned (.tuple #[.pointer (some ⟨p, 0, none⟩), .int .i64 0]) ∧ RN p w' mv hv zs len len ∧ w.heap.size ≤ p ∧ Turn nowhere w w') ∨
      (¬ sizesOk zs ∧ e = .returned (.tuple #[.pointer none, .int .i64 30]) ∧ Turn nowhere w w') := by
  obtain ⟨hzl, _, hzc⟩ := hz
  obtain ⟨g, off, rfl, hgl, _, hgc⟩ := hzc (by omega)
  have z1 : ¬ ((len : Int) > 4) := by omega
  have z2 : ((len : Int) == 0) = false := by simp; omega
  have HC := Lib.hid hgc
  have HL := Lib.hid hzl
  clear hgc hzc hzl
  go_enter Try.func6, Try.ntmps6
  go_wp2_with fail
  have hT : Turn nowhere w (w.alloc (.cells (rCells (.slice none 0 0) (.slice none 0 0)) 49)) := (Turn.refl _ w).alloc _
  have hP := Blk.new w 49 (rCells (.slice none 0 0) (.slice none 0 0))
  change Code.wp _ _ _ _ (w.alloc (.cells (rCells (.slice none 0 0) (.slice none 0 0)) 49))
  generalize (w.alloc (.cells (rCells (.slice none 0 0) (.slice none 0 0)) 49)) = w1 at *
  have hle : w.heap.size ≤ w.heap.size := Nat.le_refl _
  obtain ⟨p, hp⟩ : ∃ p, p = w.heap.size := ⟨_, rfl⟩
  rw [← hp] at hP ⊢
  have HPP := Lib.hid hp
  have HT := Lib.hid hT
  clear hp hT hle
  have hN0 : RN p w1 (.slice none 0 0) (.slice none 0 0) zs 0 0 := { mo := World.ownsRow_nil w1 p _ _, ho := ⟨_, World.ownsRow_nil w1 p _ _⟩, top := hP }
  go_loopg [5] len (fun gk i wr => ∃ (k : Nat) (mv hv : Value), k + gk = len ∧ i = .int .i64 (k : Int) ∧ RN p wr mv hv zs k k ∧ Turn nowhere w wr ∧ (∀ z ∈ zs.take k, 1 ≤ z ∧ z ≤ 65536))
  case atStart => exact ⟨0, _, _, by omega, rfl, hN0, HT.out, fun z hz => by simp at hz⟩
  case round =>
    obtain ⟨k, mv, hv, hkl, rfl, hN, hTr, hsz⟩ := hrel
    have HN := Lib.hid hN
    have HTr := Lib.hid hTr
    have HSZ := Lib.hid hsz
    have HKL := Lib.hid hkl
    clear hN hTr hsz hN0 hP hkl
    by_cases hlt : k < len
    · have hcell : wr.cell? ⟨g, off + k, none⟩ = some (.int .i64 (zs.getD k 0)) := by
        rw [HTr.out.cell (p := ⟨g, off + k, none⟩) hgl (fun e => e)]
        exact HC.out k hlt
      have y1 : (0 : Int) ≤ (k : Int) := by omega
      have y2 : (k : Int) < (len : Int) := by omega
      have hmem : zs.getD k 0 ∈ zs := by
        rw [List.getD_eq_getElem?_getD, List.getElem?_eq_getElem (by rw [HL.out]; exact hlt)]
        exact List.getElem_mem _
      have hLT := Lib.hid hlt
      clear hlt
      generalize hzk : zs.getD k 0 = z at *
      have HZ := Lib.hid hzk
      clear hzk
      by_cases b1 : z < 1
      · have Hn := Lib.hid (show ¬ sizesOk zs from fun h => by have := h.2.2 z hmem; omega)
        clear hmem
        go_wp2_with fail
        go_ret2
        exact .inr ⟨Hn.out, rfl, HTr.out⟩
      · by_cases b2 : z > 65536
        · have Hn := Lib.hid (show ¬ sizesOk zs from fun h => by have := h.2.2 z hmem; omega)
          clear hmem
          go_wp2_with fail
          go_ret2
          exact .inr ⟨Hn.out, rfl, HTr.out⟩
        · have HM := Lib.hid hmem
          clear hmem
          go_upto_region 9 with fail
          have hS0 : Blk wr.drew p 49 (rCells mv hv) ∧ wr.drew.cell? ⟨g, off + k, none⟩ = some (.int .i64 z) := ⟨HN.out.top, hcell⟩
          refine wp_region_till (fun W => Blk W p 49 (rCells mv hv) ∧ W.cell? ⟨g, off + k, none⟩ = some (.int .i64 z)) 11 (by kernel_rfl) ?_
          refine till_take (i := 0) (v := .pointer (some ⟨p, 0, none⟩)) rfl (by kernel_rfl) (by kernel_rfl) (fun _ _ _ h => h) (.inl ⟨by rfl, fun W hW => exec_move rfl rfl⟩) hS0 ?_
          simp only [Act.put, List.setIfInBounds_toArray, List.set_cons_zero, List.set_cons_succ]
          refine till_take (i := 1) (v := .pointer (some ⟨p, 0, none⟩)) rfl (by kernel_rfl) (by kernel_rfl) (fun _ _ _ h => h) (.inl ⟨by rfl, fun W hW => exec_move rfl rfl⟩) hS0 ?_
          simp only [Act.put, List.setIfInBounds_toArray, List.set_cons_zero, List.set_cons_succ]
          refine till_take (i := 2) (v := .pointer (some ⟨p, 0, none⟩)) rfl (by kernel_rfl) (by kernel_rfl) (fun _ _ _ h => h) (.inl ⟨by rfl, fun W hW => exec_nil rfl rfl⟩) hS0 ?_
          simp only [Act.put, List.setIfInBounds_toArray, List.set_cons_zero, List.set_cons_succ]
          refine till_take (i := 3) (v := .pointer (some ⟨p, 0, none⟩)) rfl (by kernel_rfl) (by kernel_rfl) (fun _ _ _ h => h) (.inl ⟨by rfl, fun W hW => exec_field (off := 0) (d := 0) rfl rfl (by kernel_rfl)⟩) hS0 ?_
          simp only [Act.put, List.setIfInBounds_toArray, List.set_cons_zero, List.set_cons_succ]
          refine till_take (i := 4) (v := mv) rfl (by kernel_rfl) (by kernel_rfl) (fun _ _ _ h => h) (.inl ⟨by rfl, fun W hW => exec_load1 rfl rfl (by kernel_rfl) (hW.1.cell 0)⟩) hS0 ?_
          simp only [Act.put, List.setIfInBounds_toArray, List.set_cons_zero, List.set_cons_succ]
          refine till_take (i := 5) (v := .slice (some ⟨g, off, none⟩) len cap) rfl (by kernel_rfl) (by kernel_rfl) (fun _ _ _ h => h) (.inl ⟨by rfl, fun W hW => exec_move rfl rfl⟩) hS0 ?_
          simp only [Act.put, List.setIfInBounds_toArray, List.set_cons_zero, List.set_cons_succ]
          refine till_take (i := 6) (v := .int .i64 (k : Int)) rfl (by kernel_rfl) (by kernel_rfl) (fun _ _ _ h => h) (.inl ⟨by rfl, fun W hW => exec_move rfl rfl⟩) hS0 ?_
          simp only [Act.put, List.setIfInBounds_toArray, List.set_cons_zero, List.set_cons_succ]
          refine till_take (i := 7) (v := .pointer (some ⟨g, off + k, none⟩)) rfl (by kernel_rfl) (by kernel_rfl) (fun _ _ _ h => h) (.inl ⟨by rfl, fun W hW => by go_simp⟩) hS0 ?_
          simp only [Act.put, List.setIfInBounds_toArray, List.set_cons_zero, List.set_cons_succ]
          refine till_take (i := 8) (v := .int .i64 z) rfl (by kernel_rfl) (by kernel_rfl) (fun _ _ _ h => h) (.inl ⟨by rfl, fun W hW => exec_load1 rfl rfl (by kernel_rfl) hW.2⟩) hS0 ?_
          simp only [Act.put, List.setIfInBounds_toArray, List.set_cons_zero, List.set_cons_succ]
          obtain ⟨i0, hi0, hz0, hz1, hz2⟩ := info_parts info_int
          refine till_only (i := 9) (by kernel_rfl) rfl rfl ?_
          refine wp_run (run_build_one (x := .tmp 42) (u := .int .i64 z) rfl rfl (run_buildSlice_one (v := .int .i64 z) Try.underlying22 hi0 hz0 (by rw [hz1]; rfl) (by rw [hz1]; rfl) (by omega) (by omega) _)) ?_
          have hS1 : Blk (wr.drew.alloc (.cells #[.int .i64 z] 3)) p 49 (rCells mv hv) ∧ (wr.drew.alloc (.cells #[.int .i64 z] 3)).cell? ⟨g, off + k, none⟩ = some (.int .i64 z) := ⟨hS0.1.alloc _, by rw [((Turn.refl nowhere wr.drew).alloc (.cells #[.int .i64 z] 3)).cell (p := ⟨g, off + k, none⟩) (World.block_lt_of_cell? _ _ hS0.2) (fun e => e)]; exact hS0.2⟩
          refine ⟨fun _ => hS1, ?_⟩
          simp only [Act.put, List.setIfInBounds_toArray, List.set_cons_zero, List.set_cons_succ]
          have hb1 := Blk.new wr.drew 3 #[.int .i64 z]
          obtain ⟨v5, w5, hrun, hown5, hg5, _, hat5⟩ := run_append_own_at (P := Try.prog) (wr.drew.alloc (.cells #[.int .i64 z] 3)) p 22 22 3 i0 _ 1 8 Try.underlying22 hi0 hz0 hz1 hz2
            rfl (by omega) mv k _ (World.ownsRow.alloc (w := wr.drew) HN.out.mo _) ⟨wr.drew.heap.size, 0, none⟩ 1 1 [.int .i64 z] rfl (fun j u hj => by
              rw [add_nat, Nat.zero_add, hb1.cell j]
              simpa using hj) (by simp [Value.oneCell']) (by have := hLT.out; unfold maxLen; omega) (by have := hLT.out; omega) (by have := HN.out.top.lt; simp; omega)
          refine till_only (i := 10) (by kernel_rfl) rfl rfl ?_
          refine wp_append (.tmp 38) (.tmp 43) _ rfl rfl rfl hrun ?_
          obtain ⟨A5, n5, cc5, rfl⟩ := row_form hown5
          obtain ⟨hP5, hT5, hR5, hT6⟩ := rn9 HN.out HTr.out HPP.out (by rw [HL.out]; exact hLT.out) HZ.out hown5 hg5
          have c5 : w5.cell? ⟨g, off + k, none⟩ = some (.int .i64 z) := by
            rw [hT5.cell (p := ⟨g, off + k, none⟩) hgl (fun e => e), HC.out k hLT.out, HZ.out]
          refine ⟨fun _ => ⟨hP5, c5⟩, ?_⟩
          refine till_tail 11 rfl (by kernel_rfl) ?_
          have c0 : w5.cell? ⟨p, 0, none⟩ = some mv := hP5.cell 0
          have f0 := hP5.frozen 0
          have HN6 := Lib.hid hR5
          have HT6 := Lib.hid hT6
          clear hS0 hS1 hb1 hrun hown5 hg5 hat5 hP5 hT5 hR5 hT6 c5 hcell
          go_wp2_with fail
          refine NoPanic.normal ?_
          go_upto_region 10 with fail
          generalize w5.setCell ⟨p, 0, none⟩ (.slice A5 n5 cc5) = w6 at *
          clear c0 f0
          have hcell : w6.drew.cell? ⟨g, off + k, none⟩ = some (.int .i64 z) := by
            have h := HT6.out.cell (p := ⟨g, off + k, none⟩) hgl (fun e => e)
            exact h.trans (by rw [HC.out k hLT.out, HZ.out])
          obtain ⟨xs, hxs⟩ := HN6.out.ho
          obtain ⟨A7, n7, cc7, rfl⟩ := row_form hxs
          have hS0 : Blk w6.drew p 49 (rCells (.slice A5 n5 cc5) (.slice A7 n7 cc7)) ∧ w6.drew.cell? ⟨g, off + k, none⟩ = some (.int .i64 z) := ⟨HN6.out.top, hcell⟩
          refine wp_region_till (fun W => Blk W p 49 (rCells (.slice A5 n5 cc5) (.slice A7 n7 cc7)) ∧ W.cell? ⟨g, off + k, none⟩ = some (.int .i64 z)) 12 (by kernel_rfl) ?_
          refine till_take (i := 0) (v := .pointer (some ⟨p, 0, none⟩)) rfl (by kernel_rfl) (by kernel_rfl) (fun _ _ _ h => h) (.inl ⟨by rfl, fun W hW => exec_move rfl rfl⟩) hS0 ?_
          simp only [Act.put, List.setIfInBounds_toArray, List.set_cons_zero, List.set_cons_succ]
          refine till_take (i := 1) (v := .pointer (some ⟨p, 0, none⟩)) rfl (by kernel_rfl) (by kernel_rfl) (fun _ _ _ h => h) (.inl ⟨by rfl, fun W hW => exec_move rfl rfl⟩) hS0 ?_
          simp only [Act.put, List.setIfInBounds_toArray, List.set_cons_zero, List.set_cons_succ]
          refine till_take (i := 2) (v := .pointer (some ⟨p, 0, none⟩)) rfl (by kernel_rfl) (by kernel_rfl) (fun _ _ _ h => h) (.inl ⟨by rfl, fun W hW => exec_nil rfl rfl⟩) hS0 ?_
          simp only [Act.put, List.setIfInBounds_toArray, List.set_cons_zero, List.set_cons_succ]
          refine till_take (i := 3) (v := .pointer (some ⟨p, 1, none⟩)) rfl (by kernel_rfl) (by kernel_rfl) (fun _ _ _ h => h) (.inl ⟨by rfl, fun W hW => exec_field (off := 0) (d := 1) rfl rfl (by kernel_rfl)⟩) hS0 ?_
          simp only [Act.put, List.setIfInBounds_toArray, List.set_cons_zero, List.set_cons_succ]
          refine till_take (i := 4) (v := .slice A7 n7 cc7) rfl (by kernel_rfl) (by kernel_rfl) (fun _ _ _ h => h) (.inl ⟨by rfl, fun W hW => exec_load1 rfl rfl (by kernel_rfl) (hW.1.cell 1)⟩) hS0 ?_
          simp only [Act.put, List.setIfInBounds_toArray, List.set_cons_zero, List.set_cons_succ]
          refine till_take (i := 5) (v := .slice (some ⟨g, off, none⟩) len cap) rfl (by kernel_rfl) (by kernel_rfl) (fun _ _ _ h => h) (.inl ⟨by rfl, fun W hW => exec_move rfl rfl⟩) hS0 ?_
          simp only [Act.put, List.setIfInBounds_toArray, List.set_cons_zero, List.set_cons_succ]
          refine till_take (i := 6) (v := .int .i64 (k : Int)) rfl (by kernel_rfl) (by kernel_rfl) (fun _ _ _ h => h) (.inl ⟨by rfl, fun W hW => exec_move rfl rfl⟩) hS0 ?_
          simp only [Act.put, List.setIfInBounds_toArray, List.set_cons_zero, List.set_cons_succ]
          refine till_take (i := 7) (v := .pointer (some ⟨g, off + k, none⟩)) rfl (by kernel_rfl) (by kernel_rfl) (fun _ _ _ h => h) (.inl ⟨by rfl, fun W hW => by go_simp⟩) hS0 ?_
          simp only [Act.put, List.setIfInBounds_toArray, List.set_cons_zero, List.set_cons_succ]
          refine till_take (i := 8) (v := .int .i64 z) rfl (by kernel_rfl) (by kernel_rfl) (fun _ _ _ h => h) (.inl ⟨by rfl, fun W hW => exec_load1 rfl rfl (by kernel_rfl) hW.2⟩) hS0 ?_
          simp only [Act.put, List.setIfInBounds_toArray, List.set_cons_zero, List.set_cons_succ]
          obtain ⟨j0, hj0, hjz, hj1, hj2⟩ := info_parts info_bytes
          have hmk := run_makeSlice (P := Try.prog) w6.drew 60 36 j0 _ Try.underlying60 hj0 hjz .i64 .i64 z z (by omega) (Int.le_refl _) (by rw [hj1]; omega) (by rw [hj2]; omega) (by omega)
          obtain ⟨O1, hO1⟩ : ∃ O1, O1 = Obj.cells (madeCells (Value.slice none 0 0).cells (z.toNat * j0.size)) 36 := ⟨_, rfl⟩
          rw [← hO1] at hmk
          clear hO1
          refine till_only (i := 9) (by kernel_rfl) rfl rfl ?_
          refine wp_run (exec_makeV rfl rfl rfl hmk) ?_
          have hS1 : Blk (w6.drew.alloc O1) p 49 (rCells (.slice A5 n5 cc5) (.slice A7 n7 cc7)) ∧ (w6.drew.alloc O1).cell? ⟨g, off + k, none⟩ = some (.int .i64 z) := ⟨hS0.1.alloc _, by rw [((Turn.refl nowhere w6.drew).alloc O1).cell (p := ⟨g, off + k, none⟩) (World.block_lt_of_cell? _ _ hS0.2) (fun e => e)]; exact hS0.2⟩
          refine ⟨fun _ => hS1, ?_⟩
          simp only [Act.put, List.setIfInBounds_toArray, List.set_cons_zero, List.set_cons_succ]
          obtain ⟨V9, hV9⟩ : ∃ V9, V9 = Value.slice (some ⟨w6.drew.heap.size, 0, none⟩) z.toNat z.toNat := ⟨_, rfl⟩
          rw [← hV9]
          have hc9 : V9.cells = #[V9] := by rw [hV9]; rfl
          have ho9 : V9.oneCell' = true := by rw [hV9]; rfl
          clear hV9
          obtain ⟨i1, hi1, hy0, hy1, hy2⟩ := info_parts info_rows
          refine till_only (i := 10) (by kernel_rfl) rfl rfl ?_
          refine wp_run (run_build_one (x := .tmp 56) (u := V9) rfl rfl (run_buildSlice_one (v := V9) Try.underlying46 hi1 hy0 (by rw [hy1, hc9]; rfl) (by rw [hy1]; rfl) (by omega) (by omega) _)) ?_
          rw [hc9]
          have hS2 : Blk ((w6.drew.alloc O1).alloc (.cells #[V9] 60)) p 49 (rCells (.slice A5 n5 cc5) (.slice A7 n7 cc7)) ∧ ((w6.drew.alloc O1).alloc (.cells #[V9] 60)).cell? ⟨g, off + k, none⟩ = some (.int .i64 z) := ⟨hS1.1.alloc _, by rw [((Turn.refl nowhere (w6.drew.alloc O1)).alloc (.cells #[V9] 60)).cell (p := ⟨g, off + k, none⟩) (World.block_lt_of_cell? _ _ hS1.2) (fun e => e)]; exact hS1.2⟩
          refine ⟨fun _ => hS2, ?_⟩
          simp only [Act.put, List.setIfInBounds_toArray, List.set_cons_zero, List.set_cons_succ]
          have hb1 := Blk.new (w6.drew.alloc O1) 60 #[V9]
          obtain ⟨v5, w7, hrun, hown5, hg5, _, hat5⟩ := run_append_own_at (P := Try.prog) ((w6.drew.alloc O1).alloc (.cells #[V9] 60)) p 46 46 60 i1 _ 1 24 Try.underlying46 hi1 hy0 hy1 hy2
            rfl (by omega) (.slice A7 n7 cc7) k _ (World.ownsRow.alloc (World.ownsRow.alloc (w := w6.drew) hxs _) _) ⟨(w6.drew.alloc O1).heap.size, 0, none⟩ 1 1 [V9] rfl (fun j u hj => by
              rw [add_nat, Nat.zero_add, hb1.cell j]
              simpa using hj) (by simp [ho9]) (by have := hLT.out; unfold maxLen; omega) (by have := hLT.out; omega) (by have := HN6.out.top.lt; simp; omega)
          refine till_only (i := 11) (by kernel_rfl) rfl rfl ?_
          refine wp_append (.tmp 51) (.tmp 57) _ rfl rfl rfl hrun ?_
          obtain ⟨A8, n8, cc8, rfl⟩ := row_form hown5
          obtain ⟨hP7, hT7, hR7, hT8⟩ := rn10 HN6.out HT6.out HPP.out hown5 hg5
          have c5 : w7.cell? ⟨g, off + k, none⟩ = some (.int .i64 z) := by
            rw [hT7.cell (p := ⟨g, off + k, none⟩) hgl (fun e => e), HC.out k hLT.out, HZ.out]
          refine ⟨fun _ => ⟨hP7, c5⟩, ?_⟩
          refine till_tail 12 rfl (by kernel_rfl) ?_
          have c0 : w7.cell? ⟨p, 1, none⟩ = some (.slice A7 n7 cc7) := hP7.cell 1
          have f0 := hP7.frozen 1
          have HN7 := Lib.hid hR7
          have HT8 := Lib.hid hT8
          clear hS0 hS1 hS2 hb1 hrun hown5 hg5 hat5 hP7 hT7 hR7 hT8 c5 hcell hxs hmk hc9 ho9
          go_wp2_with fail
          refine NoPanic.normal ?_
          go_wp2_with fail
          go_roundg (gk - 1)
          case measure => have := HKL.out; have := hLT.out; omega
          case rel =>
            refine ⟨k + 1, _, _, by have := HKL.out; have := hLT.out; omega, by go_num, HN7.out, HT8.out, fun y hy => ?_⟩
            rw [List.take_add_one, List.mem_append] at hy
            rcases hy with hy | hy
            · exact HSZ.out y hy
            · have hkz := HZ.out
              rw [List.getD_eq_getElem?_getD] at hkz
              cases hq : zs[k]? with
              | none => simp [hq] at hy
              | some y' =>
                simp [hq] at hy hkz
                subst hy
                subst hkz
                omega
    · have hke : k = len := by have := HKL.out; omega
      subst hke
      clear hlt
      go_wp2_with fail
      go_ret2
      have hall := HSZ.out
      rw [List.take_of_length_le (by rw [HL.out]; exact Nat.le_refl _)] at hall
      exact .inl ⟨⟨by rw [HL.out]; exact h1, by rw [HL.out]; exact h4, hall⟩, p, mv, hv, rfl, HN.out, by rw [HPP.out]; exact Nat.le_refl _, HTr.out⟩
end Go.Proofs.Yteedjfgandgbkaa
