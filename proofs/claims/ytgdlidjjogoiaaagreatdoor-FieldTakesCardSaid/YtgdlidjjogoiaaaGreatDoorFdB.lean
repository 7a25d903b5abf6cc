/-
  field's parts. Condition: the rows read as the program's text lays them; the form may be.
-/
import Derived.Test.YtgdlidjjogoiaaaGreatDoorFdA
import Derived.Test.YtgdlidjjogoiaaaGreatDoorBuild
import Derived.Deep.MidRow
import Derived.Maps.AppendAt
namespace Go.Proofs.YtgdlidjjogoiaaaGreatDoor
open Go.RowKit
open Fdd
set_option linter.unusedVariables false
theorem dbl (n : Nat) (h : n ≤ 64) : IntKind.i64.wrap (2 * (n : Int)) = ((2 * n : Nat) : Int) := by
  rw [IntKind.wrap_i64]
  omega
def rowV (r : Rw) : List Value := [strV r.d, strV r.h, strV r.s, strV r.m]
def RowsT (w : World) : Prop := ∀ k, k < 4 → w.rangeAt 0 (k * 4) (rowV (rws k))
theorem RowsT.turn {w w' : World} (h : RowsT w) (ht : Turn nowhere w w') : RowsT w' := fun k hk j v hv => by
  have := h k hk j v hv
  rw [ht.cell (World.block_lt_of_cell? _ _ this) (fun e => e)]
  exact this
def ptC (p : Pt) : List Value := [.int .i64 (p.n : Int), strV p.chars, strV p.stands]
def ptsC (ps : List Pt) : List Value := ps.flatMap ptC
/-- a list of parts in memory -/
def PtsAt (w : World) (g : Nat) (ps : List Pt) : Prop := ∃ cs, Blk w g 63 cs ∧ ∀ i p, ps[i]? = some p → ∀ j v, (ptC p)[j]? = some v → cs[i * 3 + j]? = some v
theorem PtsAt.turn {F : Nat → Prop} {w w' : World} {g : Nat} {ps : List Pt} (h : PtsAt w g ps) (ht : Turn F w w') (hn : ¬ F g) : PtsAt w' g ps := by
  obtain ⟨cs, h1, h2⟩ := h
  exact ⟨cs, h1.turn ht hn, h2⟩
theorem PtsAt.range {w : World} {g : Nat} {ps : List Pt} (h : PtsAt w g ps) {i : Nat} {p : Pt} (hp : ps[i]? = some p) : w.rangeAt g (i * 3) (ptC p) := by
  obtain ⟨cs, h1, h2⟩ := h
  intro j v hv
  exact (h1.cell _).trans (h2 i p hp j v hv)
theorem info_part : (Tryz.prog.info? 63).map (fun i => (i.zero, i.size, i.bytes)) = some (some (.agg #[.int .i64 0, .string ByteArray.empty, .string ByteArray.empty]), 3, 40) := by kernel_rfl
theorem build_part (z : Int) (a b : ByteArray) (W : World) : (Instr.build 63 #[(0, .int .i64 z), (1, .string a), (2, .string b)]).run Tryz.prog W = .ok (.agg #[.int .i64 z, .string a, .string b]) W := by kernel_rfl
theorem exec_build3 {P : Program} {a : Act} {o : Oper} {t : TypeId} {x y z : Operand} {u v q r : Value} {W : World} (ho : o.op = .build t #[(0, x), (1, y), (2, z)]) (hx : a.eval x = u) (hy : a.eval y = v) (hz : a.eval z = q)
    (h : (Instr.build t #[(0, u), (1, v), (2, q)]).run P W = .ok r W) : (execOp a.eval o).run P W = .ok (.value r) W := by
  unfold execOp
  simp only [ho, List.map_toArray, List.map_cons, List.map_nil, hx, hy, hz, h, Sem.run_bind, Sem.run_pure, Result.andThen_ok]
theorem add_part {W1 w : World} {v : Value} {n : Nat} {xs : List Value} (hown : w.ownsRow W1.heap.size 63 3 v n xs) (hT : Turn nowhere W1 w) (hn : n < 10) (p : Pt) :
    ∃ v' w', (Builtin.append_ #[41, 41] 41 #[v, .slice (some ⟨w.heap.size, 0, none⟩) 1 1]).run Tryz.prog (w.alloc (.cells (ptC p).toArray 63)) = .ok v' w' ∧
      w'.ownsRow W1.heap.size 63 3 v' (n + 1) (xs ++ ptC p) ∧ Turn nowhere W1 w' := by
  obtain ⟨i0, hi0, hz0, hz1, hz2⟩ := info_parts info_part
  obtain ⟨v', w', h1, h2, h3, _, _⟩ := run_append_own_at (P := Tryz.prog) (w.alloc (.cells (ptC p).toArray 63)) W1.heap.size 41 41 63 i0 _ 3 40 Tryz.underlying41 hi0 hz0 hz1 hz2
    rfl (by omega) v n xs (hown.alloc _) ⟨w.heap.size, 0, none⟩ 1 1 (ptC p) rfl (fun j u hj => by
      rw [add_nat, Nat.zero_add, (Blk.new w 63 (ptC p).toArray).cell j]
      simpa using hj) (by simp [ptC, strV, Value.oneCell']) (by unfold maxLen; omega) (by omega) (by have := hT.size; simp; omega)
  refine ⟨v', w', h1, h2, (hT.alloc _).grown h3 fun b e hb => ?_⟩
  have := (hown.lt b e).1
  omega
theorem own_pts {w : World} {B n : Nat} {v : Value} {ps : List Pt} (h : w.ownsRow B 63 3 v n (ptsC ps)) (hn : ps.length = n) (h0 : 0 < n) : ∃ g c, v = .slice (some ⟨g, 0, none⟩) n c ∧ PtsAt w g ps := by
  obtain ⟨hlt, h2⟩ := id h
  rcases h2 with ⟨e, h0'⟩ | ⟨g, cap, cur, rfl, hb, hg, _⟩
  · omega
  · refine ⟨g, cap, rfl, cur, hg, fun i p hp j v hv => ?_⟩
    have hc := World.ownsRow.cells (g := g) h rfl (i * 3 + j) v (by
      have key : ∀ (ps : List Pt) (i : Nat) (p : Pt) (j : Nat) (v : Value), ps[i]? = some p → (ptC p)[j]? = some v → (ptsC ps)[i * 3 + j]? = some v := by
        intro ps
        induction ps with
        | nil => intro i p j v h _; simp at h
        | cons q r ih =>
          intro i p j v h hj
          have hj3 : j < 3 := by
            have := (List.getElem?_eq_some_iff.1 hj).1
            simpa [ptC] using this
          unfold ptsC
          rw [List.flatMap_cons]
          cases i with
          | zero =>
            simp only [List.getElem?_cons_zero, Option.some.injEq] at h
            subst h
            rw [List.getElem?_append_left (by simp [ptC]; omega)]
            simpa using hj
          | succ i =>
            rw [List.getElem?_append_right (by simp [ptC]; omega)]
            have e : (i + 1) * 3 + j - (ptC q).length = i * 3 + j := by simp [ptC]; omega
            rw [e]
            exact ih i p j v (by simpa using h) hj
      exact key ps i p j v hp hv)
    rw [add_nat, Nat.zero_add] at hc
    exact ((Blk.cell (show Blk w g 63 cur from hg) (i * 3 + j)).symm.trans hc)
theorem own_form {w : World} {B : Nat} {e : TypeId} {sz n : Nat} {v : Value} {xs : List Value} (h : w.ownsRow B e sz v n xs) : ∃ A c, v = .slice A n c := by
  rcases h.2 with ⟨rfl, h0⟩ | ⟨g, cap, cur, rfl, _⟩
  · subst h0
    exact ⟨none, 0, rfl⟩
  · exact ⟨_, _, rfl⟩
theorem exec_alloc {P : Program} {a : Act} {o : Oper} {t : TypeId} {cs : Array Value} {W : World} (ho : o.op = .alloc t) (hz : (zeroValue t).run P W = .ok (.agg cs) W) :
    (execOp a.eval o).run P W = .ok (.value (.pointer (some ⟨W.heap.size, 0, none⟩))) (W.alloc (.cells cs t)) := by
  unfold execOp
  simp only [ho]
  simp [hz, Instr.alloc, Result.andThen, newVar, newRow, Value.cells]
theorem zero_row (w : World) : (zeroValue 71).run Tryz.prog w = .ok (.agg #[.string ByteArray.empty, .string ByteArray.empty, .string ByteArray.empty, .string ByteArray.empty]) w := by kernel_rfl
theorem size_row : (Tryz.prog.info? 71).map (·.size) = some 4 := by kernel_rfl
set_option maxRecDepth 20000 in
set_option maxHeartbeats 1000000 in
theorem parts_walk (k : Int) (s : Int) (c n : Nat) (w : World) (hk : 1 ≤ k ∧ k ≤ 5) (hc : c < 4) (hn : n ≤ 64) (hr : RowsT w) :
    Calls Tryz.prog 18 #[fmV ⟨k, s, (c : Int)⟩, .int .i64 (n : Int)] w fun e w' => ∃ g cap, e = .returned (.slice (some ⟨g, 0, none⟩) (ptsOf k (c : Int) n).length cap) ∧ PtsAt w' g (ptsOf k (c : Int) n) ∧ Turn nowhere w w' := by
  unfold fmV
  obtain ⟨i0, hi0, hz0, hz1, hz2⟩ := info_parts info_part
  go_enter Tryz.func18, Tryz.ntmps18
  go_upto_region 1 with fail
  have hb0 := Blk.new w 24 #[.int .i64 k, .int .i64 s, .int .i64 (c : Int)]
  have ht0 := (Turn.refl nowhere w).alloc (.cells #[.int .i64 k, .int .i64 s, .int .i64 (c : Int)] 24)
  generalize (w.alloc (.cells #[.int .i64 k, .int .i64 s, .int .i64 (c : Int)] 24)) = w0 at *
  obtain ⟨b2, hb2⟩ : ∃ b2, b2 = w.heap.size := ⟨_, rfl⟩
  rw [← hb2] at hb0 ⊢
  have hrow := (hr.turn ht0) c hc
  have HN := Lib.hid hn
  have hc2 : (c : Int) < 4 := by omega
  have hc3 : (0 : Int) ≤ (c : Int) := by omega
  refine wp_region_lit ?_
  refine wpList_run (v := .pointer (some ⟨b2, 2, none⟩)) rfl (exec_field (off := 0) (d := 2) rfl rfl (by kernel_rfl)) ?_
  simp only [Act.put, List.setIfInBounds_toArray, List.set_cons_zero, List.set_cons_succ]
  refine wpList_run (v := .int .i64 (c : Int)) rfl (exec_load1 rfl rfl (by kernel_rfl) (hb0.cell 2)) ?_
  simp only [Act.put, List.setIfInBounds_toArray, List.set_cons_zero, List.set_cons_succ]
  refine wpList_run (v := .pointer (some ⟨0, c * 4, none⟩)) (w' := w0) rfl (by go_simp <;> (first | omega | (intro h; omega))) ?_
  simp only [Act.put, List.setIfInBounds_toArray, List.set_cons_zero, List.set_cons_succ]
  refine wpList_run (v := .agg (rowV (rws c)).toArray) rfl (exec_load rfl rfl (run_loadAt_mid w0 _ _ 71 (rowV (rws c)) _ hrow Tryz.underlying71 rfl (by rw [size_row]; rfl))) ?_
  simp only [Act.put, List.setIfInBounds_toArray, List.set_cons_zero, List.set_cons_succ]
  refine wpList_run (v := _) rfl (exec_alloc rfl (zero_row _)) ?_
  simp only [Act.put, List.setIfInBounds_toArray, List.set_cons_zero, List.set_cons_succ]
  have hq := Blk.new w0 71 #[.string ByteArray.empty, .string ByteArray.empty, .string ByteArray.empty, .string ByteArray.empty]
  have hb4 := hb0.alloc (.cells #[.string ByteArray.empty, .string ByteArray.empty, .string ByteArray.empty, .string ByteArray.empty] 71)
  have ht4 := ht0.alloc (.cells #[.string ByteArray.empty, .string ByteArray.empty, .string ByteArray.empty, .string ByteArray.empty] 71)
  have hlt := hb0.lt
  have hle := ht0.size
  generalize (w0.alloc (.cells #[.string ByteArray.empty, .string ByteArray.empty, .string ByteArray.empty, .string ByteArray.empty] 71)) = w4 at *
  generalize w0.heap.size = b5 at *
  refine wpList_store_row rfl 71 (.tmp 5) (.tmp 10) rfl (rowV (rws c)).toArray hq rfl rfl rfl size_row (by simp [rowV, strV, Value.oneCell']) ?_
  intro w5 hq5 ht5
  have hb5 := hb4.turn ht5 (fun e => by have h2 : b2 = b5 := e; omega)
  have HT5 := Lib.hid (show Turn nowhere w w5 from ht4.trans ht5 (fun j hj e => by have h2 : j = b5 := e; omega))
  have HB5 := Lib.hid hq5
  clear hq hb4 ht4 ht5 hb0 ht0 hrow hr hlt hle hb2
  simp only [Act.put]
  have c20 : w5.cell? ⟨b2, 0, none⟩ = some (.int .i64 k) := hb5.cell 0
  clear hb5
  have hnil : w5.ownsRow w5.heap.size 63 3 (.slice none 0 0) 0 [] := World.ownsRow_nil w5 _ _ _
  have hck : k = 1 ∨ k = 2 ∨ k = 3 ∨ k = 4 ∨ k = 5 := by omega
  clear hk hn
  rcases hck with rfl | rfl | rfl | rfl | rfl
  · go_upto_region 12 with fail
    refine wp_region_lit ?_
    refine wpList_run (v := .slice none 0 0) rfl (exec_move rfl rfl) ?_
    simp only [Act.put, List.setIfInBounds_toArray, List.set_cons_zero, List.set_cons_succ]
    refine wpList_run (v := .int .i64 (n : Int)) rfl (exec_move rfl rfl) ?_
    simp only [Act.put, List.setIfInBounds_toArray, List.set_cons_zero, List.set_cons_succ]
    refine wpList_run (v := .pointer (some ⟨b5, 0, none⟩)) rfl (exec_field (off := 0) (d := 0) rfl rfl (by kernel_rfl)) ?_
    simp only [Act.put, List.setIfInBounds_toArray, List.set_cons_zero, List.set_cons_succ]
    refine wpList_run (v := strV (rws c).d) rfl (exec_load1 rfl rfl (by kernel_rfl) (HB5.out.cell 0)) ?_
    simp only [Act.put, List.setIfInBounds_toArray, List.set_cons_zero, List.set_cons_succ]
    obtain ⟨v6, w6, hrun6, hown6, ht6⟩ := add_part hnil (Turn.refl nowhere w5) (by omega) ⟨n, dec, (rws c).d⟩
    refine wpList_run (v := .agg (ptC ⟨n, dec, (rws c).d⟩).toArray) rfl (exec_build3 rfl rfl rfl rfl (build_part _ _ _ _)) ?_
    simp only [Act.put, List.setIfInBounds_toArray, List.set_cons_zero, List.set_cons_succ]
    refine wpList_run (v := _) rfl (exec_buildSlice1 rfl rfl (run_buildSlice_one (v := .agg (ptC ⟨n, dec, (rws c).d⟩).toArray) Tryz.underlying41 hi0 hz0 (by rw [hz1]; rfl) (by rw [hz1]; rfl) (by omega) (by omega) _)) ?_
    simp only [Act.put, List.setIfInBounds_toArray, List.set_cons_zero, List.set_cons_succ]
    refine wpList_run (v := v6) (w' := w6) rfl (exec_append rfl rfl rfl hrun6) ?_
    simp only [Act.put, List.setIfInBounds_toArray, List.set_cons_zero, List.set_cons_succ]
    obtain ⟨g, cap, rfl, hp⟩ := own_pts (ps := [⟨n, dec, (rws c).d⟩]) hown6 rfl (by omega)
    have HPP := Lib.hid hp
    have HT6 := Lib.hid (HT5.out.trans ht6 (fun _ _ e => e))
    clear hnil hrun6 hown6 ht6 hp
    go_wp2_with fail
    go_ret
    exact ⟨g, cap, rfl, HPP.out, HT6.out⟩
  · go_upto_region 12 with fail
    refine wp_region_lit ?_
    refine wpList_run (v := .slice none 0 0) rfl (exec_move rfl rfl) ?_
    simp only [Act.put, List.setIfInBounds_toArray, List.set_cons_zero, List.set_cons_succ]
    refine wpList_run (v := .int .i64 (n : Int)) rfl (exec_move rfl rfl) ?_
    simp only [Act.put, List.setIfInBounds_toArray, List.set_cons_zero, List.set_cons_succ]
    refine wpList_run (v := .pointer (some ⟨b5, 0, none⟩)) rfl (exec_field (off := 0) (d := 0) rfl rfl (by kernel_rfl)) ?_
    simp only [Act.put, List.setIfInBounds_toArray, List.set_cons_zero, List.set_cons_succ]
    refine wpList_run (v := strV (rws c).d) rfl (exec_load1 rfl rfl (by kernel_rfl) (HB5.out.cell 0)) ?_
    simp only [Act.put, List.setIfInBounds_toArray, List.set_cons_zero, List.set_cons_succ]
    obtain ⟨v6, w6, hrun6, hown6, ht6⟩ := add_part hnil (Turn.refl nowhere w5) (by omega) ⟨n, dec, (rws c).d⟩
    refine wpList_run (v := .agg (ptC ⟨n, dec, (rws c).d⟩).toArray) rfl (exec_build3 rfl rfl rfl rfl (build_part _ _ _ _)) ?_
    simp only [Act.put, List.setIfInBounds_toArray, List.set_cons_zero, List.set_cons_succ]
    refine wpList_run (v := _) rfl (exec_buildSlice1 rfl rfl (run_buildSlice_one (v := .agg (ptC ⟨n, dec, (rws c).d⟩).toArray) Tryz.underlying41 hi0 hz0 (by rw [hz1]; rfl) (by rw [hz1]; rfl) (by omega) (by omega) _)) ?_
    simp only [Act.put, List.setIfInBounds_toArray, List.set_cons_zero, List.set_cons_succ]
    refine wpList_run (v := v6) (w' := w6) rfl (exec_append rfl rfl rfl hrun6) ?_
    simp only [Act.put, List.setIfInBounds_toArray, List.set_cons_zero, List.set_cons_succ]
    obtain ⟨g, cap, rfl, hp⟩ := own_pts (ps := [⟨n, dec, (rws c).d⟩]) hown6 rfl (by omega)
    have HPP := Lib.hid hp
    have HT6 := Lib.hid (HT5.out.trans ht6 (fun _ _ e => e))
    clear hnil hrun6 hown6 ht6 hp
    go_wp2_with fail
    go_ret
    exact ⟨g, cap, rfl, HPP.out, HT6.out⟩
  · go_upto_region 9 with fail
    refine wp_region_lit ?_
    refine wpList_run (v := .slice none 0 0) rfl (exec_move rfl rfl) ?_
    simp only [Act.put, List.setIfInBounds_toArray, List.set_cons_zero, List.set_cons_succ]
    refine wpList_run (v := .int .i64 (n : Int)) rfl (exec_move rfl rfl) ?_
    simp only [Act.put, List.setIfInBounds_toArray, List.set_cons_zero, List.set_cons_succ]
    refine wpList_run (v := .pointer (some ⟨b5, 2, none⟩)) rfl (exec_field (off := 0) (d := 2) rfl rfl (by kernel_rfl)) ?_
    simp only [Act.put, List.setIfInBounds_toArray, List.set_cons_zero, List.set_cons_succ]
    refine wpList_run (v := strV (rws c).s) rfl (exec_load1 rfl rfl (by kernel_rfl) (HB5.out.cell 2)) ?_
    simp only [Act.put, List.setIfInBounds_toArray, List.set_cons_zero, List.set_cons_succ]
    obtain ⟨v6, w6, hrun6, hown6, ht6⟩ := add_part hnil (Turn.refl nowhere w5) (by omega) ⟨n, sgn, (rws c).s⟩
    refine wpList_run (v := .agg (ptC ⟨n, sgn, (rws c).s⟩).toArray) rfl (exec_build3 rfl rfl rfl rfl (build_part _ _ _ _)) ?_
    simp only [Act.put, List.setIfInBounds_toArray, List.set_cons_zero, List.set_cons_succ]
    refine wpList_run (v := _) rfl (exec_buildSlice1 rfl rfl (run_buildSlice_one (v := .agg (ptC ⟨n, sgn, (rws c).s⟩).toArray) Tryz.underlying41 hi0 hz0 (by rw [hz1]; rfl) (by rw [hz1]; rfl) (by omega) (by omega) _)) ?_
    simp only [Act.put, List.setIfInBounds_toArray, List.set_cons_zero, List.set_cons_succ]
    refine wpList_run (v := v6) (w' := w6) rfl (exec_append rfl rfl rfl hrun6) ?_
    simp only [Act.put, List.setIfInBounds_toArray, List.set_cons_zero, List.set_cons_succ]
    obtain ⟨g, cap, rfl, hp⟩ := own_pts (ps := [⟨n, sgn, (rws c).s⟩]) hown6 rfl (by omega)
    have HPP := Lib.hid hp
    have HT6 := Lib.hid (HT5.out.trans ht6 (fun _ _ e => e))
    clear hnil hrun6 hown6 ht6 hp
    go_wp2_with fail
    go_ret
    exact ⟨g, cap, rfl, HPP.out, HT6.out⟩
  · go_upto_region 10 with fail
    refine wp_region_lit ?_
    refine wpList_run (v := .slice none 0 0) rfl (exec_move rfl rfl) ?_
    simp only [Act.put, List.setIfInBounds_toArray, List.set_cons_zero, List.set_cons_succ]
    refine wpList_run (v := .int .i64 (n : Int)) rfl (exec_move rfl rfl) ?_
    simp only [Act.put, List.setIfInBounds_toArray, List.set_cons_zero, List.set_cons_succ]
    refine wpList_run (v := .int .i64 ((2 * n : Nat) : Int)) (w' := w5) rfl (by go_simp; exact dbl n HN.out) ?_
    simp only [Act.put, List.setIfInBounds_toArray, List.set_cons_zero, List.set_cons_succ]
    refine wpList_run (v := .pointer (some ⟨b5, 1, none⟩)) rfl (exec_field (off := 0) (d := 1) rfl rfl (by kernel_rfl)) ?_
    simp only [Act.put, List.setIfInBounds_toArray, List.set_cons_zero, List.set_cons_succ]
    refine wpList_run (v := strV (rws c).h) rfl (exec_load1 rfl rfl (by kernel_rfl) (HB5.out.cell 1)) ?_
    simp only [Act.put, List.setIfInBounds_toArray, List.set_cons_zero, List.set_cons_succ]
    obtain ⟨v6, w6, hrun6, hown6, ht6⟩ := add_part hnil (Turn.refl nowhere w5) (by omega) ⟨2 * n, hexs, (rws c).h⟩
    refine wpList_run (v := .agg (ptC ⟨2 * n, hexs, (rws c).h⟩).toArray) rfl (exec_build3 rfl rfl rfl rfl (build_part _ _ _ _)) ?_
    simp only [Act.put, List.setIfInBounds_toArray, List.set_cons_zero, List.set_cons_succ]
    refine wpList_run (v := _) rfl (exec_buildSlice1 rfl rfl (run_buildSlice_one (v := .agg (ptC ⟨2 * n, hexs, (rws c).h⟩).toArray) Tryz.underlying41 hi0 hz0 (by rw [hz1]; rfl) (by rw [hz1]; rfl) (by omega) (by omega) _)) ?_
    simp only [Act.put, List.setIfInBounds_toArray, List.set_cons_zero, List.set_cons_succ]
    refine wpList_run (v := v6) (w' := w6) rfl (exec_append rfl rfl rfl hrun6) ?_
    simp only [Act.put, List.setIfInBounds_toArray, List.set_cons_zero, List.set_cons_succ]
    obtain ⟨g, cap, rfl, hp⟩ := own_pts (ps := [⟨2 * n, hexs, (rws c).h⟩]) hown6 rfl (by omega)
    have HPP := Lib.hid hp
    have HT6 := Lib.hid (HT5.out.trans ht6 (fun _ _ e => e))
    clear hnil hrun6 hown6 ht6 hp
    go_wp2_with fail
    go_ret
    exact ⟨g, cap, rfl, HPP.out, HT6.out⟩
  · go_upto_region 11 with fail
    refine wp_region_lit ?_
    refine wpList_run (v := .slice none 0 0) rfl (exec_move rfl rfl) ?_
    simp only [Act.put, List.setIfInBounds_toArray, List.set_cons_zero, List.set_cons_succ]
    refine wpList_run (v := .pointer (some ⟨b5, 3, none⟩)) rfl (exec_field (off := 0) (d := 3) rfl rfl (by kernel_rfl)) ?_
    simp only [Act.put, List.setIfInBounds_toArray, List.set_cons_zero, List.set_cons_succ]
    refine wpList_run (v := strV (rws c).m) rfl (exec_load1 rfl rfl (by kernel_rfl) (HB5.out.cell 3)) ?_
    simp only [Act.put, List.setIfInBounds_toArray, List.set_cons_zero, List.set_cons_succ]
    obtain ⟨v6, w6, hrun6, hown6, ht6⟩ := add_part hnil (Turn.refl nowhere w5) (by omega) ⟨1, mk, (rws c).m⟩
    refine wpList_run (v := .agg (ptC ⟨1, mk, (rws c).m⟩).toArray) rfl (exec_build3 rfl rfl rfl rfl (build_part _ _ _ _)) ?_
    simp only [Act.put, List.setIfInBounds_toArray, List.set_cons_zero, List.set_cons_succ]
    refine wpList_run (v := _) rfl (exec_buildSlice1 rfl rfl (run_buildSlice_one (v := .agg (ptC ⟨1, mk, (rws c).m⟩).toArray) Tryz.underlying41 hi0 hz0 (by rw [hz1]; rfl) (by rw [hz1]; rfl) (by omega) (by omega) _)) ?_
    simp only [Act.put, List.setIfInBounds_toArray, List.set_cons_zero, List.set_cons_succ]
    refine wpList_run (v := v6) (w' := w6) rfl (exec_append rfl rfl rfl hrun6) ?_
    simp only [Act.put, List.setIfInBounds_toArray, List.set_cons_zero, List.set_cons_succ]
    obtain ⟨A6, c6, rfl⟩ := own_form hown6
    have HB5' := Lib.hid (HB5.out.turn ht6 (fun e => e))
    have HO6 := Lib.hid hown6
    have HT6' := Lib.hid ht6
    clear hnil hrun6 hown6 ht6
    go_upto_region 12 with fail
    refine wp_region_lit ?_
    refine wpList_run (v := .slice A6 1 c6) rfl (exec_move rfl rfl) ?_
    simp only [Act.put, List.setIfInBounds_toArray, List.set_cons_zero, List.set_cons_succ]
    refine wpList_run (v := .int .i64 (n : Int)) rfl (exec_move rfl rfl) ?_
    simp only [Act.put, List.setIfInBounds_toArray, List.set_cons_zero, List.set_cons_succ]
    refine wpList_run (v := .pointer (some ⟨b5, 0, none⟩)) rfl (exec_field (off := 0) (d := 0) rfl rfl (by kernel_rfl)) ?_
    simp only [Act.put, List.setIfInBounds_toArray, List.set_cons_zero, List.set_cons_succ]
    refine wpList_run (v := strV (rws c).d) rfl (exec_load1 rfl rfl (by kernel_rfl) (HB5'.out.cell 0)) ?_
    simp only [Act.put, List.setIfInBounds_toArray, List.set_cons_zero, List.set_cons_succ]
    obtain ⟨v7, w7, hrun7, hown7, ht7⟩ := add_part HO6.out HT6'.out (by omega) ⟨n, dec, (rws c).d⟩
    refine wpList_run (v := .agg (ptC ⟨n, dec, (rws c).d⟩).toArray) rfl (exec_build3 rfl rfl rfl rfl (build_part _ _ _ _)) ?_
    simp only [Act.put, List.setIfInBounds_toArray, List.set_cons_zero, List.set_cons_succ]
    refine wpList_run (v := _) rfl (exec_buildSlice1 rfl rfl (run_buildSlice_one (v := .agg (ptC ⟨n, dec, (rws c).d⟩).toArray) Tryz.underlying41 hi0 hz0 (by rw [hz1]; rfl) (by rw [hz1]; rfl) (by omega) (by omega) _)) ?_
    simp only [Act.put, List.setIfInBounds_toArray, List.set_cons_zero, List.set_cons_succ]
    refine wpList_run (v := v7) (w' := w7) rfl (exec_append rfl rfl rfl hrun7) ?_
    simp only [Act.put, List.setIfInBounds_toArray, List.set_cons_zero, List.set_cons_succ]
    obtain ⟨g, cap, rfl, hp⟩ := own_pts (ps := [⟨1, mk, (rws c).m⟩, ⟨n, dec, (rws c).d⟩]) hown7 rfl (by omega)
    have HPP := Lib.hid hp
    have HT6 := Lib.hid (HT5.out.trans ht7 (fun _ _ e => e))
    clear hrun7 hown7 ht7 hp
    go_wp2_with fail
    go_ret
    exact ⟨g, cap, rfl, HPP.out, HT6.out⟩
end Go.Proofs.YtgdlidjjogoiaaaGreatDoor
