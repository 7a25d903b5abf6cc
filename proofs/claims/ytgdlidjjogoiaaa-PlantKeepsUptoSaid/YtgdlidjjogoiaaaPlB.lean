/-
  plant's disks: what a disk is in memory
-/
import Derived.Test.YtgdlidjjogoiaaaMaps
import Derived.Test.YtgdlidjjogoiaaaBuild
import Derived.Test.YtgdlidjjogoiaaaHold
import Derived.Test.YtgdlidjjogoiaaaProg
import Derived.StillTailTactics
import Derived.Deep.QuietTactic
import Derived.BigQuiet
import Derived.WalkSmall
import Derived.Deep.MidRow
import Derived.Deep.RegionHeld3
import Derived.Maps.AppendAt
namespace Go.Proofs.Ytgdlidjjogoiaaa
open Go.RowKit
set_option linter.unusedVariables false
abbrev Sec := { l : List UInt8 // l.length = 64 }
/-- a write that waits: its step, its place, its bytes -/
abbrev Wt := Int × Int × Sec
def wtCells (x : Wt) : List Value := Value.int .i64 x.1 :: Value.int .i64 x.2.1 :: bcs x.2.2.1
noncomputable def kI : MKey Try.prog 3 Int := intKey Try.underlying3
abbrev eS : Elem Sec := rowElem 64
theorem size_sector : (Try.prog.info? 66).map (·.size) = some 64 := by kernel_rfl
theorem size_write : (Try.prog.info? 69).map (·.size) = some 66 := by kernel_rfl
theorem range_of_blk {w : World} {g : Nat} {t : TypeId} {cs : Array Value} (h : Blk w g t cs) (o : Nat) (l : List Value) (hl : ∀ j v, l[j]? = some v → cs[o + j]? = some v) : w.rangeAt g o l := fun j v hv => by
  rw [h.cell]
  exact hl j v hv
/-- a sector that is read -/
theorem load_sector {w : World} {g o : Nat} {s : Sec} (h : w.rangeAt g o (bcs s.1)) (W : World) (hW : W.heap = w.heap) :
    (Instr.loadAt 66 (.pointer (some ⟨g, o, none⟩))).run Try.prog W = .ok (rowV s.1) W :=
  run_loadAt_mid W g o 66 (bcs s.1) _ (fun j v hv => by
    have := h j v hv
    simpa [World.cell?, hW] using this) Try.underlying66 rfl (by rw [size_sector, bcs_length, s.2])
theorem wt_sec (x : Wt) {w : World} {g : Nat} {t : TypeId} (h : Blk w g t (wtCells x).toArray) : w.rangeAt g 2 (bcs x.2.2.1) :=
  range_of_blk h 2 _ fun j v hv => by
    rw [Nat.add_comm]
    simpa [wtCells] using hv
theorem load_write {w : World} {g o : Nat} {x : Wt} (h : w.rangeAt g o (wtCells x)) (W : World) (hW : W.heap = w.heap) :
    (Instr.loadAt 69 (.pointer (some ⟨g, o, none⟩))).run Try.prog W = .ok (.agg (wtCells x).toArray) W :=
  run_loadAt_mid W g o 69 (wtCells x) _ (fun j v hv => by
    have := h j v hv
    simpa [World.cell?, hW] using this) Try.underlying69 rfl (by rw [size_write]; simp [wtCells, bcs_length, x.2.2.2])
theorem wt_all (x : Wt) {w : World} {g : Nat} {t : TypeId} (h : Blk w g t (wtCells x).toArray) : w.rangeAt g 0 (wtCells x) :=
  range_of_blk h 0 _ fun j v hv => by
    rw [Nat.zero_add]
    simpa using hv
theorem run_load {P : Program} {a : Act} {o : Oper} {ty : TypeId} {x : Operand} {p v : Value} {W : World} (ho : o.op = .load ty x) (hx : a.eval x = p) (h : (Instr.loadAt ty p).run P W = .ok v W) : (execOp a.eval o).run P W = .ok (.value v) W := by
  unfold execOp
  simp only [ho, hx, h, Sem.run_bind, Sem.run_pure, Result.andThen_ok]
theorem run_build_one {P : Program} {a : Act} {o : Oper} {t : TypeId} {x : Operand} {u v : Value} {W W' : World} (ho : o.op = .buildSlice t 1 #[(0, x)]) (hx : a.eval x = u) (h : (Instr.buildSlice t 1 #[(0, u)]).run P W = .ok v W') : (execOp a.eval o).run P W = .ok (.value v) W' := by
  unfold execOp
  simp only [ho, List.map_toArray, List.map_cons, List.map_nil, hx, h, Sem.run_bind, Sem.run_pure, Result.andThen_ok]
def zeroSec : Sec := ⟨List.replicate 64 0, rfl⟩
theorem info_write : (Try.prog.info? 69).map (fun i => (i.zero, i.size, i.bytes)) = some (some (.agg (wtCells (0, 0, zeroSec)).toArray), 66, 80) := by kernel_rfl
theorem wtCells_length (x : Wt) : (wtCells x).length = 66 := by simp [wtCells, bcs_length, x.2.2.2]
theorem wtCells_one (x : Wt) : ∀ u ∈ wtCells x, u.oneCell' = true := by
  intro u hu
  simp only [wtCells, List.mem_cons] at hu
  rcases hu with rfl | rfl | hu
  · rfl
  · rfl
  · exact bcs_one _ u hu
/-- the waits of a disk: a row of the program's own -/
def Waits (w : World) (v : Value) (ws : List Wt) : Prop := w.ownsRow 0 69 66 v ws.length (ws.flatMap wtCells)
theorem Waits.keep {w w' : World} {v : Value} {ws : List Wt} (h : Waits w v ws) (hk : ∀ g, v.ownBlock = some g → w'.heap[g]? = w.heap[g]?) : Waits w' v ws := by
  refine ⟨h.1, ?_⟩
  rcases h.2 with h2 | ⟨g, cap, cur, rfl, h3, h4, h5⟩
  · exact .inl h2
  · exact .inr ⟨g, cap, cur, rfl, h3, (hk g rfl).trans h4, h5⟩
theorem Waits.turn {F : Nat → Prop} {w w' : World} {v : Value} {ws : List Wt} (h : Waits w v ws) (ht : Turn F w w') (hF : ∀ g, v.ownBlock = some g → ¬ F g) : Waits w' v ws :=
  h.keep fun g hg => ht.block g (h.lt g hg).2 (hF g hg)
theorem Waits.form {w : World} {v : Value} {ws : List Wt} (h : Waits w v ws) : ∃ A n c, v = .slice A n c := by
  rcases h.2 with ⟨rfl, h2⟩ | ⟨g, cap, cur, rfl, _⟩
  · exact ⟨none, 0, 0, rfl⟩
  · exact ⟨_, _, _, rfl⟩
/-- how a block of waits goes on: as it was, or a new one, or none -/
def Goes (w : World) (v v' : Value) : Prop := v'.ownBlock = v.ownBlock ∨ ∃ g, v'.ownBlock = some g ∧ w.heap.size ≤ g
set_option maxHeartbeats 1000000 in
theorem add_walk (db o nw nn : Nat) (f : Int → Option Sec) (x : Wt) (C : Array Value) (wv : Value) (ws : List Wt) (w : World)
    (hd : Blk w db 62 C) (h2 : C[o + 2]? = some (.map (some nw))) (h3 : C[o + 3]? = some wv) (hm : MapAt w kI eS nw nn f) (hx : (Lit.int .i64 x.2.1).wf = true)
    (hown : Waits w wv ws) (hn : nn < 1099511627776) (hl : ws.length < 1099511627776) :
    Calls Try.prog 31 #[.pointer (some ⟨db, o, none⟩), .agg (wtCells x).toArray] w fun e w' => e = .returned (.tuple #[]) ∧
      ∃ wv', Blk w' db 62 (C.setIfInBounds (o + 3) wv') ∧ MapAt w' kI eS nw (nn + 1) (upd f x.2.1 x.2.2) ∧ Waits w' wv' (ws ++ [x]) ∧ Goes w wv wv' ∧
        Turn (fun k => k = db ∨ k = nw ∨ wv.ownBlock = some k) w w' := by
  obtain ⟨i0, hi0, hz0, hz1, hz2⟩ := info_parts info_write
  go_enter Try.func31, Try.ntmps31
  go_wp2
  have hG := Blk.new w 69 (wtCells x).toArray
  have hd1 := hd.alloc (.cells (wtCells x).toArray 69)
  have hm1 := hm.alloc (.cells (wtCells x).toArray 69)
  have ho1 : Waits _ wv ws := hown.alloc (.cells (wtCells x).toArray 69)
  have t1 : Turn (fun k => k = db ∨ k = nw ∨ wv.ownBlock = some k) w _ := (Turn.refl _ _).alloc (.cells (wtCells x).toArray 69)
  have hlt := fun g hg => (hown.lt g hg).2
  generalize (w.alloc (.cells (wtCells x).toArray 69)) = w1 at *
  have hGe : w.heap.size = w.heap.size := rfl
  generalize hGG : w.heap.size = G at hG ⊢
  have Hlt := Lib.hid hlt
  have HGG := Lib.hid hGG
  clear hlt hGe hGG
  have c2 : w1.cell? ⟨db, o + 2, none⟩ = some (.map (some nw)) := (hd1.cell _).trans h2
  have g1 : w1.cell? ⟨G, 1, none⟩ = some (.int .i64 x.2.1) := (hG.cell _).trans (by simp [wtCells])
  have Hs := Lib.hid (load_sector (wt_sec x hG))
  have Hm := Lib.hid hm1
  have H3 := Lib.hid h3
  have Ho := Lib.hid ho1
  have Hn := hm1.ne hd1
  have Hn2 := hm1.ne hG
  clear hm hm1 h2 h3 hown ho1
  refine wp_region_still_tail 8 (by kernel_rfl) (by kernel_rfl) ?_
  simp only [List.take_succ_cons, List.take_zero, List.drop_succ_cons, List.drop_zero]
  iterate 7 still_step
  refine wpStill_load rfl _ _ rfl _ _ rfl (Hs.out _ rfl) ?_
  refine wpStill_nil ?_
  change wpList _ _ _ _ _ w1.drew
  refine wpList_mapUpdate_at rfl _ _ _ _ rfl Hm.out.drew Try.underlying59 (by unfold maxLen; omega) hx x.2.2 rfl rfl rfl ?_
  intro w2 hm2 hg2
  have hd2 := hd1.drew.grown hg2 (fun e => Hn (Option.some.inj e))
  have hG2 := hG.drew.grown hg2 (fun e => Hn2 (Option.some.inj e))
  have t2 := t1.drew.grown hg2 (fun g e _ => .inr (.inl (Option.some.inj e).symm))
  have ho2 : Waits w2 wv ws := Ho.out.keep (w' := w2) fun g hg => hg2.block g (by exact (Ho.out.lt g hg).2) (fun e => by
    obtain ⟨D, ⟨es, clock, hb, _⟩, _⟩ := Hm.out
    rcases Ho.out.2 with ⟨e1, _⟩ | ⟨g', cap, cur, e1, _, h4, _⟩
    · rw [e1] at hg
      cases hg
    · rw [e1] at hg
      injection hg with hg
      have hg' : g' = g := hg
      subst hg'
      exact cells_ne_map (g := g') (b := nw) h4 hb (Option.some.inj e))
  clear hd1 hG hg2 t1 c2 g1 Hs Hm Ho
  have c3 : w2.cell? ⟨db, o + 3, none⟩ = some wv := (hd2.cell _).trans H3.out
  have f3 := hd2.frozen (o + 3)
  have Hw := Lib.hid (load_write (wt_all x hG2))
  have Hm2 := Lib.hid hm2
  clear hm2
  go_wp2
  have hS0 : Blk w2.drew db 62 C ∧ Blk w2.drew G 69 (wtCells x).toArray := ⟨hd2, hG2⟩
  refine wp_region_till (fun W => Blk W db 62 C ∧ Blk W G 69 (wtCells x).toArray) 8 (by kernel_rfl) ?_
  refine till_take (i := 0) (v := .pointer (some ⟨db, o, none⟩)) rfl (by kernel_rfl) (by kernel_rfl) (fun _ _ _ h => h) (.inl ⟨by rfl, fun W hW => by go_simp⟩) hS0 ?_
  simp only [Act.put, List.setIfInBounds_toArray, List.set_cons_zero, List.set_cons_succ]
  refine till_take (i := 1) (v := .pointer (some ⟨db, o, none⟩)) rfl (by kernel_rfl) (by kernel_rfl) (fun _ _ _ h => h) (.inl ⟨by rfl, fun W hW => by go_simp⟩) hS0 ?_
  simp only [Act.put, List.setIfInBounds_toArray, List.set_cons_zero, List.set_cons_succ]
  refine till_take (i := 2) (v := .pointer (some ⟨db, o, none⟩)) rfl (by kernel_rfl) (by kernel_rfl) (fun _ _ _ h => h) (.inl ⟨by rfl, fun W hW => by go_simp⟩) hS0 ?_
  simp only [Act.put, List.setIfInBounds_toArray, List.set_cons_zero, List.set_cons_succ]
  refine till_take (i := 3) (v := .pointer (some ⟨db, o + 3, none⟩)) rfl (by kernel_rfl) (by kernel_rfl) (fun _ _ _ h => h) (.inl ⟨by rfl, fun W hW => by go_simp⟩) hS0 ?_
  simp only [Act.put, List.setIfInBounds_toArray, List.set_cons_zero, List.set_cons_succ]
  refine till_take (i := 4) (v := wv) rfl (by kernel_rfl) (by kernel_rfl) (fun _ _ _ h => h) (.inl ⟨by rfl, fun W hW => by have c := (hW.1.cell (o + 3)).trans H3.out; go_simp⟩) hS0 ?_
  simp only [Act.put, List.setIfInBounds_toArray, List.set_cons_zero, List.set_cons_succ]
  refine till_take (i := 5) (v := .agg (wtCells x).toArray) rfl (by kernel_rfl) (by kernel_rfl) (fun _ _ _ h => h) (.inl ⟨by rfl, fun W hW => run_load rfl rfl (load_write (wt_all x hW.2) W rfl)⟩) hS0 ?_
  simp only [Act.put, List.setIfInBounds_toArray, List.set_cons_zero, List.set_cons_succ]
  refine till_only (i := 6) (by kernel_rfl) rfl rfl ?_
  refine wp_run (run_build_one (x := .tmp 17) (u := .agg (wtCells x).toArray) rfl rfl (run_buildSlice_one (v := .agg (wtCells x).toArray) Try.underlying60 hi0 hz0 (by rw [hz1]; simp [Value.cells, wtCells_length]) (by rw [hz1]; simp [Value.cells, wtCells_length]) (by omega) (by omega) _)) ?_
  have hG3 := Blk.new w2.drew 69 (wtCells x).toArray
  have hS3 : Blk _ db 62 C ∧ Blk _ G 69 (wtCells x).toArray := ⟨hS0.1.alloc (.cells (wtCells x).toArray 69), hS0.2.alloc (.cells (wtCells x).toArray 69)⟩
  have hm3 := Hm2.out.drew.alloc (.cells (wtCells x).toArray 69)
  have ho3 : Waits _ wv ws := World.ownsRow.alloc (w := w2.drew) ho2 (.cells (wtCells x).toArray 69)
  have t3 := t2.drew.alloc (.cells (wtCells x).toArray 69)
  have hdbw : ∀ (g : Nat), wv.ownBlock = some g → g ≠ db ∧ g ≠ G ∧ g < w2.heap.size := by
    intro g hg
    have hgl := Hlt.out g hg
    rw [HGG.out] at hgl
    refine ⟨?_, by omega, (ho2.lt g hg).2⟩
    rcases ho2.2 with ⟨e1, _⟩ | ⟨g', cap, cur, e1, _, h4, _⟩
    · rw [e1] at hg
      cases hg
    · rw [e1] at hg
      injection hg with hg
      have hg' : g' = g := hg
      subst hg'
      exact Blk.ne_ (w := w2) (g := g') (cs := cur) h4 hd2 (by decide)
  refine ⟨fun _ => hS3, ?_⟩
  obtain ⟨wv', w4, hrun, hown4, hg4, _, hat⟩ := run_append_own_at (P := Try.prog) (w2.drew.alloc (.cells (wtCells x).toArray 69)) 0 60 60 69 i0 _ 66 80 Try.underlying60 hi0 hz0 hz1 hz2
    (by simp [Value.cells, wtCells_length]) (by omega) wv ws.length _ ho3 ⟨w2.heap.size, 0, none⟩ 1 1 (wtCells x) (by rw [wtCells_length]) (fun j u hj => by
      have := hG3.cell j
      rw [add_nat, Nat.zero_add]
      exact this.trans (by simpa using hj)) (wtCells_one x) (by unfold maxLen; omega) (by omega) (Nat.zero_le _)
  simp only [Act.put, List.setIfInBounds_toArray, List.set_cons_zero, List.set_cons_succ, Value.cells]
  refine till_only (i := 7) (by kernel_rfl) rfl rfl ?_
  refine wp_append (.tmp 16) (.tmp 18) _ rfl rfl rfl hrun ?_
  have hd4 : Blk w4 db 62 C := hS3.1.grown hg4 (fun e => (hdbw db e.symm).1 rfl)
  have hG4 : Blk w4 G 69 (wtCells x).toArray := hS3.2.grown hg4 (fun e => (hdbw G e.symm).2.1 rfl)
  have hm4 : MapAt w4 kI eS nw (nn + 1) (upd f x.2.1 x.2.2) := hm3.grown hg4 (fun e => by
    rcases ho2.2 with ⟨e1, _⟩ | ⟨g', cap, cur, e1, _, h4, _⟩
    · rw [e1] at e
      cases e
    · rw [e1] at e
      injection e with e
      have e' : nw = g' := e
      exact Hm2.out.ne (w := w2) (g := g') h4 e'.symm)
  have t4 := t3.grown hg4 (fun g e _ => .inr (.inr e))
  have hat4 : Goes w wv wv' := by
    rcases hat with e | e
    · exact .inl e
    · refine .inr ⟨_, e, ?_⟩
      have := t2.size
      simp
      omega
  have c4 : w4.cell? ⟨db, o + 3, none⟩ = some wv := (hd4.cell _).trans H3.out
  have f4 := hd4.frozen (o + 3)
  have ho4 : Waits w4 wv' (ws ++ [x]) := by
    unfold Waits
    rw [List.length_append, List.flatMap_append]
    simpa using hown4
  obtain ⟨A', n', c', rfl⟩ := ho4.form
  refine ⟨fun _ => ⟨hd4, hG4⟩, ?_⟩
  refine till_tail 8 rfl (by kernel_rfl) ?_
  clear hd2 hG2 ho2 c3 f3 Hw Hm2 hS0 hG3 hS3 hm3 ho3 hrun hown4 hg4 hat hdbw
  have Ho := Lib.hid ho4
  have Hm := Lib.hid hm4
  have Ht := Lib.hid t4
  have Ha := Lib.hid hat4
  have Hg : ∀ g, (Value.slice A' n' c').ownBlock = some g → g ≠ db := by
    intro g hg
    rcases ho4.2 with ⟨e1, _⟩ | ⟨g', cap, cur, e1, _, h4, _⟩
    · rw [e1] at hg
      cases hg
    · rw [e1] at hg
      injection hg with hg
      have hg' : g' = g := hg
      subst hg'
      exact Blk.ne_ (w := w4) (g := g') (cs := cur) h4 hd4 (by decide)
  have Hg := Lib.hid Hg
  clear ho4 hm4 t4 hat4 t2 t3
  go_wp2
  refine NoPanic.normal ?_
  go_wp2
  go_end0
  exact ⟨rfl, _, hd4.set_ _ _, Hm.out.setCell (p := ⟨db, o + 3, none⟩) (Ne.symm Hn) _, Ho.out.keep fun g hg => heap_setCell_other _ _ _ _ (Hg.out g hg), Ha.out, Ht.out.setCell (p := ⟨db, o + 3, none⟩) (fun _ => .inl rfl) _⟩
end Go.Proofs.Ytgdlidjjogoiaaa
