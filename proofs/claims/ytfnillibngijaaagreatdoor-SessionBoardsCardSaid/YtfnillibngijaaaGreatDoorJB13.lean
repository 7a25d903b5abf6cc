/-
  Texts in one file: FdB FdC FdD FdE FdH. Conditions: the tables and the errors read as the program's text lays them.
-/
import Derived.Test.YtfnillibngijaaaGreatDoorJB12
import Derived.Test.YtfnillibngijaaaGreatDoorJB1
import Derived.Deep.MidRow
import Derived.Maps.AppendAt
import Derived.Laws.EntriesVeiled
namespace Go.Proofs.YtfnillibngijaaaGreatDoor
open Go.RowKit
open Fdd
set_option linter.unusedVariables false
theorem dbl (n : Nat) (h : n ≤ 64) : IntKind.i64.wrap (2 * (n : Int)) = ((2 * n : Nat) : Int) := by
  rw [IntKind.wrap_i64]
  omega
def rowV (r : Rw) : List Value := [strV r.d, strV r.h, strV r.s, strV r.m]
def RowsT (w : World) : Prop := ∀ k, k < 4 → w.rangeAt 13 (k * 4) (rowV (rws k))
theorem RowsT.turn {w w' : World} (h : RowsT w) (ht : Turn nowhere w w') : RowsT w' := fun k hk j v hv => by
  have := h k hk j v hv
  rw [ht.cell (World.block_lt_of_cell? _ _ this) (fun e => e)]
  exact this
def ptC (p : Pt) : List Value := [.int .i64 (p.n : Int), strV p.chars, strV p.stands]
def ptsC (ps : List Pt) : List Value := ps.flatMap ptC
/-- a list of parts in memory -/
def PtsAt (w : World) (g : Nat) (ps : List Pt) : Prop := ∃ cs, Blk w g 176 cs ∧ ∀ i p, ps[i]? = some p → ∀ j v, (ptC p)[j]? = some v → cs[i * 3 + j]? = some v
theorem PtsAt.turn {F : Nat → Prop} {w w' : World} {g : Nat} {ps : List Pt} (h : PtsAt w g ps) (ht : Turn F w w') (hn : ¬ F g) : PtsAt w' g ps := by
  obtain ⟨cs, h1, h2⟩ := h
  exact ⟨cs, h1.turn ht hn, h2⟩
theorem PtsAt.range {w : World} {g : Nat} {ps : List Pt} (h : PtsAt w g ps) {i : Nat} {p : Pt} (hp : ps[i]? = some p) : w.rangeAt g (i * 3) (ptC p) := by
  obtain ⟨cs, h1, h2⟩ := h
  intro j v hv
  exact (h1.cell _).trans (h2 i p hp j v hv)
theorem info_part : (Tryz.prog.info? 176).map (fun i => (i.zero, i.size, i.bytes)) = some (some (.agg #[.int .i64 0, .string ByteArray.empty, .string ByteArray.empty]), 3, 40) := by kernel_rfl
theorem build_part (z : Int) (a b : ByteArray) (W : World) : (Instr.build 176 #[(0, .int .i64 z), (1, .string a), (2, .string b)]).run Tryz.prog W = .ok (.agg #[.int .i64 z, .string a, .string b]) W := by kernel_rfl
theorem exec_build3 {P : Program} {a : Act} {o : Oper} {t : TypeId} {x y z : Operand} {u v q r : Value} {W : World} (ho : o.op = .build t #[(0, x), (1, y), (2, z)]) (hx : a.eval x = u) (hy : a.eval y = v) (hz : a.eval z = q)
    (h : (Instr.build t #[(0, u), (1, v), (2, q)]).run P W = .ok r W) : (execOp a.eval o).run P W = .ok (.value r) W := by
  unfold execOp
  simp only [ho, List.map_toArray, List.map_cons, List.map_nil, hx, hy, hz, h, Sem.run_bind, Sem.run_pure, Result.andThen_ok]
theorem add_part {W1 w : World} {v : Value} {n : Nat} {xs : List Value} (hown : w.ownsRow W1.heap.size 176 3 v n xs) (hT : Turn nowhere W1 w) (hn : n < 10) (p : Pt) :
    ∃ v' w', (Builtin.append_ #[155, 155] 155 #[v, .slice (some ⟨w.heap.size, 0, none⟩) 1 1]).run Tryz.prog (w.alloc (.cells (ptC p).toArray 176)) = .ok v' w' ∧
      w'.ownsRow W1.heap.size 176 3 v' (n + 1) (xs ++ ptC p) ∧ Turn nowhere W1 w' := by
  obtain ⟨i0, hi0, hz0, hz1, hz2⟩ := info_parts info_part
  obtain ⟨v', w', h1, h2, h3, _, _⟩ := run_append_own_at (P := Tryz.prog) (w.alloc (.cells (ptC p).toArray 176)) W1.heap.size 155 155 176 i0 _ 3 40 Tryz.underlying155 hi0 hz0 hz1 hz2
    rfl (by omega) v n xs (hown.alloc _) ⟨w.heap.size, 0, none⟩ 1 1 (ptC p) rfl (fun j u hj => by
      rw [add_nat, Nat.zero_add, (Blk.new w 176 (ptC p).toArray).cell j]
      simpa using hj) (by simp [ptC, strV, Value.oneCell']) (by unfold maxLen; omega) (by omega) (by have := hT.size; simp; omega)
  refine ⟨v', w', h1, h2, (hT.alloc _).grown h3 fun b e hb => ?_⟩
  have := (hown.lt b e).1
  omega
theorem own_pts {w : World} {B n : Nat} {v : Value} {ps : List Pt} (h : w.ownsRow B 176 3 v n (ptsC ps)) (hn : ps.length = n) (h0 : 0 < n) : ∃ g c, v = .slice (some ⟨g, 0, none⟩) n c ∧ PtsAt w g ps := by
  obtain ⟨hlt, h2⟩ := id h
  rcases h2 with ⟨e, h0'⟩ | ⟨g, cap, cur, rfl, hb, hg, _⟩
  · omega
  · refine ⟨g, cap, rfl, cur, hg, fun i p hp j v hv => ?_⟩
    have hc := World.ownsRow.cells (g := g) h rfl (i * 3 + j) v (by
      have key : ∀ (ps : List Pt) (i : Nat) (p : Pt) (j : Nat) (v : Value), ps[i]? = some p → (ptC p)[j]? = some v → (ptsC ps)[i * 3 + j]? = some v := by
        intro ps
        induction ps with
        | nil => intro i p j v h _; simp at h
        | cons q r ih =>
          intro i p j v h hj
          have hj3 : j < 3 := by
            have := (List.getElem?_eq_some_iff.1 hj).1
            simpa [ptC] using this
          unfold ptsC
          rw [List.flatMap_cons]
          cases i with
          | zero =>
            simp only [List.getElem?_cons_zero, Option.some.injEq] at h
            subst h
            rw [List.getElem?_append_left (by simp [ptC]; omega)]
            simpa using hj
          | succ i =>
            rw [List.getElem?_append_right (by simp [ptC]; omega)]
            have e : (i + 1) * 3 + j - (ptC q).length = i * 3 + j := by simp [ptC]; omega
            rw [e]
            exact ih i p j v (by simpa using h) hj
      exact key ps i p j v hp hv)
    rw [add_nat, Nat.zero_add] at hc
    exact ((Blk.cell (show Blk w g 176 cur from hg) (i * 3 + j)).symm.trans hc)
theorem own_form {w : World} {B : Nat} {e : TypeId} {sz n : Nat} {v : Value} {xs : List Value} (h : w.ownsRow B e sz v n xs) : ∃ A c, v = .slice A n c := by
  rcases h.2 with ⟨rfl, h0⟩ | ⟨g, cap, cur, rfl, _⟩
  · subst h0
    exact ⟨none, 0, rfl⟩
  · exact ⟨_, _, rfl⟩
theorem exec_alloc {P : Program} {a : Act} {o : Oper} {t : TypeId} {cs : Array Value} {W : World} (ho : o.op = .alloc t) (hz : (zeroValue t).run P W = .ok (.agg cs) W) :
    (execOp a.eval o).run P W = .ok (.value (.pointer (some ⟨W.heap.size, 0, none⟩))) (W.alloc (.cells cs t)) := by
  unfold execOp
  simp only [ho]
  simp [hz, Instr.alloc, Result.andThen, newVar, newRow, Value.cells]
theorem zero_row (w : World) : (zeroValue 195).run Tryz.prog w = .ok (.agg #[.string ByteArray.empty, .string ByteArray.empty, .string ByteArray.empty, .string ByteArray.empty]) w := by kernel_rfl
theorem size_row : (Tryz.prog.info? 195).map (·.size) = some 4 := by kernel_rfl
set_option maxRecDepth 20000 in
set_option maxHeartbeats 1000000 in
theorem parts_walk (k : Int) (s : Int) (c n : Nat) (w : World) (hk : 1 ≤ k ∧ k ≤ 5) (hc : c < 4) (hn : n ≤ 64) (hr : RowsT w) :
    Calls Tryz.prog 84 #[fmV ⟨k, s, (c : Int)⟩, .int .i64 (n : Int)] w fun e w' => ∃ g cap, e = .returned (.slice (some ⟨g, 0, none⟩) (ptsOf k (c : Int) n).length cap) ∧ PtsAt w' g (ptsOf k (c : Int) n) ∧ Turn nowhere w w' := by
  unfold fmV
  obtain ⟨i0, hi0, hz0, hz1, hz2⟩ := info_parts info_part
  go_enter Tryz.func84, Tryz.ntmps84
  go_upto_region 1 with fail
  have hb0 := Blk.new w 104 #[.int .i64 k, .int .i64 s, .int .i64 (c : Int)]
  have ht0 := (Turn.refl nowhere w).alloc (.cells #[.int .i64 k, .int .i64 s, .int .i64 (c : Int)] 104)
  generalize (w.alloc (.cells #[.int .i64 k, .int .i64 s, .int .i64 (c : Int)] 104)) = w0 at *
  obtain ⟨b2, hb2⟩ : ∃ b2, b2 = w.heap.size := ⟨_, rfl⟩
  rw [← hb2] at hb0 ⊢
  have hrow := (hr.turn ht0) c hc
  have HN := Lib.hid hn
  have hc2 : (c : Int) < 4 := by omega
  have hc3 : (0 : Int) ≤ (c : Int) := by omega
  refine wp_region_lit ?_
  refine wpList_run (v := .pointer (some ⟨b2, 2, none⟩)) rfl (exec_field (off := 0) (d := 2) rfl rfl (by kernel_rfl)) ?_
  simp only [Act.put, List.setIfInBounds_toArray, List.set_cons_zero, List.set_cons_succ]
  refine wpList_run (v := .int .i64 (c : Int)) rfl (exec_load1 rfl rfl (by kernel_rfl) (hb0.cell 2)) ?_
  simp only [Act.put, List.setIfInBounds_toArray, List.set_cons_zero, List.set_cons_succ]
  refine wpList_run (v := .pointer (some ⟨13, c * 4, none⟩)) (w' := w0) rfl (by go_simp <;> (first | omega | (intro h; omega))) ?_
  simp only [Act.put, List.setIfInBounds_toArray, List.set_cons_zero, List.set_cons_succ]
  refine wpList_run (v := .agg (rowV (rws c)).toArray) rfl (exec_load rfl rfl (run_loadAt_mid w0 _ _ 195 (rowV (rws c)) _ hrow Tryz.underlying195 rfl (by rw [size_row]; rfl))) ?_
  simp only [Act.put, List.setIfInBounds_toArray, List.set_cons_zero, List.set_cons_succ]
  refine wpList_run (v := _) rfl (exec_alloc rfl (zero_row _)) ?_
  simp only [Act.put, List.setIfInBounds_toArray, List.set_cons_zero, List.set_cons_succ]
  have hq := Blk.new w0 195 #[.string ByteArray.empty, .string ByteArray.empty, .string ByteArray.empty, .string ByteArray.empty]
  have hb4 := hb0.alloc (.cells #[.string ByteArray.empty, .string ByteArray.empty, .string ByteArray.empty, .string ByteArray.empty] 195)
  have ht4 := ht0.alloc (.cells #[.string ByteArray.empty, .string ByteArray.empty, .string ByteArray.empty, .string ByteArray.empty] 195)
  have hlt := hb0.lt
  have hle := ht0.size
  generalize (w0.alloc (.cells #[.string ByteArray.empty, .string ByteArray.empty, .string ByteArray.empty, .string ByteArray.empty] 195)) = w4 at *
  generalize w0.heap.size = b5 at *
  refine wpList_store_row rfl 195 (.tmp 5) (.tmp 10) rfl (rowV (rws c)).toArray hq rfl rfl rfl size_row (by simp [rowV, strV, Value.oneCell']) ?_
  intro w5 hq5 ht5
  have hb5 := hb4.turn ht5 (fun e => by have h2 : b2 = b5 := e; omega)
  have HT5 := Lib.hid (show Turn nowhere w w5 from ht4.trans ht5 (fun j hj e => by have h2 : j = b5 := e; omega))
  have HB5 := Lib.hid hq5
  clear hq hb4 ht4 ht5 hb0 ht0 hrow hr hlt hle hb2
  simp only [Act.put]
  have c20 : w5.cell? ⟨b2, 0, none⟩ = some (.int .i64 k) := hb5.cell 0
  clear hb5
  have hnil : w5.ownsRow w5.heap.size 176 3 (.slice none 0 0) 0 [] := World.ownsRow_nil w5 _ _ _
  have hck : k = 1 ∨ k = 2 ∨ k = 3 ∨ k = 4 ∨ k = 5 := by omega
  clear hk hn
  rcases hck with rfl | rfl | rfl | rfl | rfl
  · go_upto_region 12 with fail
    refine wp_region_lit ?_
    refine wpList_run (v := .slice none 0 0) rfl (exec_move rfl rfl) ?_
    simp only [Act.put, List.setIfInBounds_toArray, List.set_cons_zero, List.set_cons_succ]
    refine wpList_run (v := .int .i64 (n : Int)) rfl (exec_move rfl rfl) ?_
    simp only [Act.put, List.setIfInBounds_toArray, List.set_cons_zero, List.set_cons_succ]
    refine wpList_run (v := .pointer (some ⟨b5, 0, none⟩)) rfl (exec_field (off := 0) (d := 0) rfl rfl (by kernel_rfl)) ?_
    simp only [Act.put, List.setIfInBounds_toArray, List.set_cons_zero, List.set_cons_succ]
    refine wpList_run (v := strV (rws c).d) rfl (exec_load1 rfl rfl (by kernel_rfl) (HB5.out.cell 0)) ?_
    simp only [Act.put, List.setIfInBounds_toArray, List.set_cons_zero, List.set_cons_succ]
    obtain ⟨v6, w6, hrun6, hown6, ht6⟩ := add_part hnil (Turn.refl nowhere w5) (by omega) ⟨n, dec, (rws c).d⟩
    refine wpList_run (v := .agg (ptC ⟨n, dec, (rws c).d⟩).toArray) rfl (exec_build3 rfl rfl rfl rfl (build_part _ _ _ _)) ?_
    simp only [Act.put, List.setIfInBounds_toArray, List.set_cons_zero, List.set_cons_succ]
    refine wpList_run (v := _) rfl (exec_buildSlice1 rfl rfl (run_buildSlice_one (v := .agg (ptC ⟨n, dec, (rws c).d⟩).toArray) Tryz.underlying155 hi0 hz0 (by rw [hz1]; rfl) (by rw [hz1]; rfl) (by omega) (by omega) _)) ?_
    simp only [Act.put, List.setIfInBounds_toArray, List.set_cons_zero, List.set_cons_succ]
    refine wpList_run (v := v6) (w' := w6) rfl (exec_append rfl rfl rfl hrun6) ?_
    simp only [Act.put, List.setIfInBounds_toArray, List.set_cons_zero, List.set_cons_succ]
    obtain ⟨g, cap, rfl, hp⟩ := own_pts (ps := [⟨n, dec, (rws c).d⟩]) hown6 rfl (by omega)
    have HPP := Lib.hid hp
    have HT6 := Lib.hid (HT5.out.trans ht6 (fun _ _ e => e))
    clear hnil hrun6 hown6 ht6 hp
    go_wp2_with fail
    go_ret
    exact ⟨g, cap, rfl, HPP.out, HT6.out⟩
  · go_upto_region 12 with fail
    refine wp_region_lit ?_
    refine wpList_run (v := .slice none 0 0) rfl (exec_move rfl rfl) ?_
    simp only [Act.put, List.setIfInBounds_toArray, List.set_cons_zero, List.set_cons_succ]
    refine wpList_run (v := .int .i64 (n : Int)) rfl (exec_move rfl rfl) ?_
    simp only [Act.put, List.setIfInBounds_toArray, List.set_cons_zero, List.set_cons_succ]
    refine wpList_run (v := .pointer (some ⟨b5, 0, none⟩)) rfl (exec_field (off := 0) (d := 0) rfl rfl (by kernel_rfl)) ?_
    simp only [Act.put, List.setIfInBounds_toArray, List.set_cons_zero, List.set_cons_succ]
    refine wpList_run (v := strV (rws c).d) rfl (exec_load1 rfl rfl (by kernel_rfl) (HB5.out.cell 0)) ?_
    simp only [Act.put, List.setIfInBounds_toArray, List.set_cons_zero, List.set_cons_succ]
    obtain ⟨v6, w6, hrun6, hown6, ht6⟩ := add_part hnil (Turn.refl nowhere w5) (by omega) ⟨n, dec, (rws c).d⟩
    refine wpList_run (v := .agg (ptC ⟨n, dec, (rws c).d⟩).toArray) rfl (exec_build3 rfl rfl rfl rfl (build_part _ _ _ _)) ?_
    simp only [Act.put, List.setIfInBounds_toArray, List.set_cons_zero, List.set_cons_succ]
    refine wpList_run (v := _) rfl (exec_buildSlice1 rfl rfl (run_buildSlice_one (v := .agg (ptC ⟨n, dec, (rws c).d⟩).toArray) Tryz.underlying155 hi0 hz0 (by rw [hz1]; rfl) (by rw [hz1]; rfl) (by omega) (by omega) _)) ?_
    simp only [Act.put, List.setIfInBounds_toArray, List.set_cons_zero, List.set_cons_succ]
    refine wpList_run (v := v6) (w' := w6) rfl (exec_append rfl rfl rfl hrun6) ?_
    simp only [Act.put, List.setIfInBounds_toArray, List.set_cons_zero, List.set_cons_succ]
    obtain ⟨g, cap, rfl, hp⟩ := own_pts (ps := [⟨n, dec, (rws c).d⟩]) hown6 rfl (by omega)
    have HPP := Lib.hid hp
    have HT6 := Lib.hid (HT5.out.trans ht6 (fun _ _ e => e))
    clear hnil hrun6 hown6 ht6 hp
    go_wp2_with fail
    go_ret
    exact ⟨g, cap, rfl, HPP.out, HT6.out⟩
  · go_upto_region 9 with fail
    refine wp_region_lit ?_
    refine wpList_run (v := .slice none 0 0) rfl (exec_move rfl rfl) ?_
    simp only [Act.put, List.setIfInBounds_toArray, List.set_cons_zero, List.set_cons_succ]
    refine wpList_run (v := .int .i64 (n : Int)) rfl (exec_move rfl rfl) ?_
    simp only [Act.put, List.setIfInBounds_toArray, List.set_cons_zero, List.set_cons_succ]
    refine wpList_run (v := .pointer (some ⟨b5, 2, none⟩)) rfl (exec_field (off := 0) (d := 2) rfl rfl (by kernel_rfl)) ?_
    simp only [Act.put, List.setIfInBounds_toArray, List.set_cons_zero, List.set_cons_succ]
    refine wpList_run (v := strV (rws c).s) rfl (exec_load1 rfl rfl (by kernel_rfl) (HB5.out.cell 2)) ?_
    simp only [Act.put, List.setIfInBounds_toArray, List.set_cons_zero, List.set_cons_succ]
    obtain ⟨v6, w6, hrun6, hown6, ht6⟩ := add_part hnil (Turn.refl nowhere w5) (by omega) ⟨n, sgn, (rws c).s⟩
    refine wpList_run (v := .agg (ptC ⟨n, sgn, (rws c).s⟩).toArray) rfl (exec_build3 rfl rfl rfl rfl (build_part _ _ _ _)) ?_
    simp only [Act.put, List.setIfInBounds_toArray, List.set_cons_zero, List.set_cons_succ]
    refine wpList_run (v := _) rfl (exec_buildSlice1 rfl rfl (run_buildSlice_one (v := .agg (ptC ⟨n, sgn, (rws c).s⟩).toArray) Tryz.underlying155 hi0 hz0 (by rw [hz1]; rfl) (by rw [hz1]; rfl) (by omega) (by omega) _)) ?_
    simp only [Act.put, List.setIfInBounds_toArray, List.set_cons_zero, List.set_cons_succ]
    refine wpList_run (v := v6) (w' := w6) rfl (exec_append rfl rfl rfl hrun6) ?_
    simp only [Act.put, List.setIfInBounds_toArray, List.set_cons_zero, List.set_cons_succ]
    obtain ⟨g, cap, rfl, hp⟩ := own_pts (ps := [⟨n, sgn, (rws c).s⟩]) hown6 rfl (by omega)
    have HPP := Lib.hid hp
    have HT6 := Lib.hid (HT5.out.trans ht6 (fun _ _ e => e))
    clear hnil hrun6 hown6 ht6 hp
    go_wp2_with fail
    go_ret
    exact ⟨g, cap, rfl, HPP.out, HT6.out⟩
  · go_upto_region 10 with fail
    refine wp_region_lit ?_
    refine wpList_run (v := .slice none 0 0) rfl (exec_move rfl rfl) ?_
    simp only [Act.put, List.setIfInBounds_toArray, List.set_cons_zero, List.set_cons_succ]
    refine wpList_run (v := .int .i64 (n : Int)) rfl (exec_move rfl rfl) ?_
    simp only [Act.put, List.setIfInBounds_toArray, List.set_cons_zero, List.set_cons_succ]
    refine wpList_run (v := .int .i64 ((2 * n : Nat) : Int)) (w' := w5) rfl (by go_simp; exact dbl n HN.out) ?_
    simp only [Act.put, List.setIfInBounds_toArray, List.set_cons_zero, List.set_cons_succ]
    refine wpList_run (v := .pointer (some ⟨b5, 1, none⟩)) rfl (exec_field (off := 0) (d := 1) rfl rfl (by kernel_rfl)) ?_
    simp only [Act.put, List.setIfInBounds_toArray, List.set_cons_zero, List.set_cons_succ]
    refine wpList_run (v := strV (rws c).h) rfl (exec_load1 rfl rfl (by kernel_rfl) (HB5.out.cell 1)) ?_
    simp only [Act.put, List.setIfInBounds_toArray, List.set_cons_zero, List.set_cons_succ]
    obtain ⟨v6, w6, hrun6, hown6, ht6⟩ := add_part hnil (Turn.refl nowhere w5) (by omega) ⟨2 * n, hexs, (rws c).h⟩
    refine wpList_run (v := .agg (ptC ⟨2 * n, hexs, (rws c).h⟩).toArray) rfl (exec_build3 rfl rfl rfl rfl (build_part _ _ _ _)) ?_
    simp only [Act.put, List.setIfInBounds_toArray, List.set_cons_zero, List.set_cons_succ]
    refine wpList_run (v := _) rfl (exec_buildSlice1 rfl rfl (run_buildSlice_one (v := .agg (ptC ⟨2 * n, hexs, (rws c).h⟩).toArray) Tryz.underlying155 hi0 hz0 (by rw [hz1]; rfl) (by rw [hz1]; rfl) (by omega) (by omega) _)) ?_
    simp only [Act.put, List.setIfInBounds_toArray, List.set_cons_zero, List.set_cons_succ]
    refine wpList_run (v := v6) (w' := w6) rfl (exec_append rfl rfl rfl hrun6) ?_
    simp only [Act.put, List.setIfInBounds_toArray, List.set_cons_zero, List.set_cons_succ]
    obtain ⟨g, cap, rfl, hp⟩ := own_pts (ps := [⟨2 * n, hexs, (rws c).h⟩]) hown6 rfl (by omega)
    have HPP := Lib.hid hp
    have HT6 := Lib.hid (HT5.out.trans ht6 (fun _ _ e => e))
    clear hnil hrun6 hown6 ht6 hp
    go_wp2_with fail
    go_ret
    exact ⟨g, cap, rfl, HPP.out, HT6.out⟩
  · go_upto_region 11 with fail
    refine wp_region_lit ?_
    refine wpList_run (v := .slice none 0 0) rfl (exec_move rfl rfl) ?_
    simp only [Act.put, List.setIfInBounds_toArray, List.set_cons_zero, List.set_cons_succ]
    refine wpList_run (v := .pointer (some ⟨b5, 3, none⟩)) rfl (exec_field (off := 0) (d := 3) rfl rfl (by kernel_rfl)) ?_
    simp only [Act.put, List.setIfInBounds_toArray, List.set_cons_zero, List.set_cons_succ]
    refine wpList_run (v := strV (rws c).m) rfl (exec_load1 rfl rfl (by kernel_rfl) (HB5.out.cell 3)) ?_
    simp only [Act.put, List.setIfInBounds_toArray, List.set_cons_zero, List.set_cons_succ]
    obtain ⟨v6, w6, hrun6, hown6, ht6⟩ := add_part hnil (Turn.refl nowhere w5) (by omega) ⟨1, mk, (rws c).m⟩
    refine wpList_run (v := .agg (ptC ⟨1, mk, (rws c).m⟩).toArray) rfl (exec_build3 rfl rfl rfl rfl (build_part _ _ _ _)) ?_
    simp only [Act.put, List.setIfInBounds_toArray, List.set_cons_zero, List.set_cons_succ]
    refine wpList_run (v := _) rfl (exec_buildSlice1 rfl rfl (run_buildSlice_one (v := .agg (ptC ⟨1, mk, (rws c).m⟩).toArray) Tryz.underlying155 hi0 hz0 (by rw [hz1]; rfl) (by rw [hz1]; rfl) (by omega) (by omega) _)) ?_
    simp only [Act.put, List.setIfInBounds_toArray, List.set_cons_zero, List.set_cons_succ]
    refine wpList_run (v := v6) (w' := w6) rfl (exec_append rfl rfl rfl hrun6) ?_
    simp only [Act.put, List.setIfInBounds_toArray, List.set_cons_zero, List.set_cons_succ]
    obtain ⟨A6, c6, rfl⟩ := own_form hown6
    have HB5' := Lib.hid (HB5.out.turn ht6 (fun e => e))
    have HO6 := Lib.hid hown6
    have HT6' := Lib.hid ht6
    clear hnil hrun6 hown6 ht6
    go_upto_region 12 with fail
    refine wp_region_lit ?_
    refine wpList_run (v := .slice A6 1 c6) rfl (exec_move rfl rfl) ?_
    simp only [Act.put, List.setIfInBounds_toArray, List.set_cons_zero, List.set_cons_succ]
    refine wpList_run (v := .int .i64 (n : Int)) rfl (exec_move rfl rfl) ?_
    simp only [Act.put, List.setIfInBounds_toArray, List.set_cons_zero, List.set_cons_succ]
    refine wpList_run (v := .pointer (some ⟨b5, 0, none⟩)) rfl (exec_field (off := 0) (d := 0) rfl rfl (by kernel_rfl)) ?_
    simp only [Act.put, List.setIfInBounds_toArray, List.set_cons_zero, List.set_cons_succ]
    refine wpList_run (v := strV (rws c).d) rfl (exec_load1 rfl rfl (by kernel_rfl) (HB5'.out.cell 0)) ?_
    simp only [Act.put, List.setIfInBounds_toArray, List.set_cons_zero, List.set_cons_succ]
    obtain ⟨v7, w7, hrun7, hown7, ht7⟩ := add_part HO6.out HT6'.out (by omega) ⟨n, dec, (rws c).d⟩
    refine wpList_run (v := .agg (ptC ⟨n, dec, (rws c).d⟩).toArray) rfl (exec_build3 rfl rfl rfl rfl (build_part _ _ _ _)) ?_
    simp only [Act.put, List.setIfInBounds_toArray, List.set_cons_zero, List.set_cons_succ]
    refine wpList_run (v := _) rfl (exec_buildSlice1 rfl rfl (run_buildSlice_one (v := .agg (ptC ⟨n, dec, (rws c).d⟩).toArray) Tryz.underlying155 hi0 hz0 (by rw [hz1]; rfl) (by rw [hz1]; rfl) (by omega) (by omega) _)) ?_
    simp only [Act.put, List.setIfInBounds_toArray, List.set_cons_zero, List.set_cons_succ]
    refine wpList_run (v := v7) (w' := w7) rfl (exec_append rfl rfl rfl hrun7) ?_
    simp only [Act.put, List.setIfInBounds_toArray, List.set_cons_zero, List.set_cons_succ]
    obtain ⟨g, cap, rfl, hp⟩ := own_pts (ps := [⟨1, mk, (rws c).m⟩, ⟨n, dec, (rws c).d⟩]) hown7 rfl (by omega)
    have HPP := Lib.hid hp
    have HT6 := Lib.hid (HT5.out.trans ht7 (fun _ _ e => e))
    clear hrun7 hown7 ht7 hp
    go_wp2_with fail
    go_ret
    exact ⟨g, cap, rfl, HPP.out, HT6.out⟩
end Go.Proofs.YtfnillibngijaaaGreatDoor
namespace Go.Proofs.YtfnillibngijaaaGreatDoor
open Go.RowKit
open Fdd
set_option linter.unusedVariables false
theorem hmf : ∀ (fn : Fn) (first cap : Array Value) (w : World), (Instr.makeFunc fn first cap).run Tryz.prog w = .ok (.func fn first cap) w := fun _ _ _ _ => rfl
def ptrTo (b : Nat) : Value := .pointer (some ⟨b, 0, none⟩)
def pairV (q c : Nat) : Array Value := #[.func (.func 119) #[] #[], .func (.func 120) #[] #[ptrTo q], .func (.func 121) #[] #[ptrTo c]]
def sinV (s c : Nat) : Array Value := #[.func (.func 122) #[] #[], .func (.func 123) #[] #[ptrTo s, ptrTo c], .func (.func 124) #[] #[ptrTo s, ptrTo c]]
def placeV (c : Nat) : Value := .func (.func 117) #[] #[ptrTo c]
theorem size_code : (Tryz.prog.info? 192).map (·.size) = some 3 := by kernel_rfl
theorem paired_walk (ch : ByteArray) (w : World) :
    Calls Tryz.prog 105 #[.string ch] w fun e w' => ∃ q c, e = .returned (.agg (pairV q c)) ∧ Blk w' q 220 #[placeV c] ∧ Blk w' c 9 #[.string ch] ∧ Turn nowhere w w' := by
  have hmf := hmf
  have hs1 : w.heap.size + 1 = (w.alloc (.cells #[.string ch] 9)).heap.size := by simp
  have hs2 : w.heap.size + 1 + 1 = ((w.alloc (.cells #[.string ch] 9)).alloc (.cells (pairV (w.heap.size + 1 + 1) w.heap.size) 192)).heap.size := by simp
  have HS1 := Lib.hid hs1
  have HS2 := Lib.hid hs2
  clear hs1 hs2
  go_enter Tryz.func105, Tryz.ntmps105
  go_wp2
  change bodyPost _ _ _ _ _ (((w.alloc (.cells #[.string ch] 9)).alloc (.cells (pairV (w.heap.size + 1 + 1) w.heap.size) 192)).alloc (.cells #[placeV w.heap.size] 220))
  have hb2 := (Blk.new (w.alloc (.cells #[.string ch] 9)) 192 (pairV (w.heap.size + 1 + 1) w.heap.size)).alloc (.cells #[placeV w.heap.size] 220)
  have hb3 := Blk.new ((w.alloc (.cells #[.string ch] 9)).alloc (.cells (pairV (w.heap.size + 1 + 1) w.heap.size) 192)) 220 #[placeV w.heap.size]
  rw [← HS1.out] at hb2
  rw [← HS2.out] at hb3
  refine bodyPost_ret (v := .agg (pairV (w.heap.size + 1 + 1) w.heap.size)) (results_cell_row rfl _ _ (w.heap.size + 1) 192 _ (0, 0) _ rfl hb2 Tryz.underlying192 rfl size_code) rfl
    ⟨w.heap.size + 1 + 1, w.heap.size, rfl, hb3, ((Blk.new w 9 #[.string ch]).alloc _).alloc _, (((Turn.refl _ w).alloc _).alloc _).alloc _⟩
theorem single_walk (ch st : ByteArray) (w : World) :
    Calls Tryz.prog 106 #[.string ch, .string st] w fun e w' => ∃ s c, e = .returned (.agg (sinV s c)) ∧ Blk w' s 9 #[.string st] ∧ Blk w' c 9 #[.string ch] ∧ Turn nowhere w w' := by
  have hmf := hmf
  have hs1 : w.heap.size + 1 = (w.alloc (.cells #[.string ch] 9)).heap.size := by simp
  have hs2 : w.heap.size + 1 + 1 = ((w.alloc (.cells #[.string ch] 9)).alloc (.cells #[.string st] 9)).heap.size := by simp
  have HS1 := Lib.hid hs1
  have HS2 := Lib.hid hs2
  clear hs1 hs2
  go_enter Tryz.func106, Tryz.ntmps106
  go_wp2
  change bodyPost _ _ _ _ _ (((w.alloc (.cells #[.string ch] 9)).alloc (.cells #[.string st] 9)).alloc (.cells (sinV (w.heap.size + 1) w.heap.size) 192))
  have hb2 := (Blk.new (w.alloc (.cells #[.string ch] 9)) 9 #[.string st]).alloc (.cells (sinV (w.heap.size + 1) w.heap.size) 192)
  have hb3 := Blk.new ((w.alloc (.cells #[.string ch] 9)).alloc (.cells #[.string st] 9)) 192 (sinV (w.heap.size + 1) w.heap.size)
  rw [← HS1.out] at hb2
  rw [← HS2.out] at hb3
  refine bodyPost_ret (v := .agg (sinV (w.heap.size + 1) w.heap.size)) (results_cell_row rfl _ _ (w.heap.size + 1 + 1) 192 _ (0, 0) _ rfl hb3 Tryz.underlying192 rfl size_code) rfl
    ⟨w.heap.size + 1, w.heap.size, rfl, hb2, ((Blk.new w 9 #[.string ch]).alloc _).alloc _, (((Turn.refl _ w).alloc _).alloc _).alloc _⟩
/-- a part's code -/
def CodeAt (w : World) (cv : Array Value) (p : Pt) : Prop :=
  (p.stands = [] ∧ ∃ q c, cv = pairV q c ∧ Blk w q 220 #[placeV c] ∧ Blk w c 9 #[strV p.chars]) ∨
  (p.stands ≠ [] ∧ ∃ s c, cv = sinV s c ∧ Blk w s 9 #[strV p.stands] ∧ Blk w c 9 #[strV p.chars])
theorem pair_one (q c : Nat) : ∀ v ∈ (pairV q c).toList, v.oneCell' = true := by simp [pairV, Value.oneCell']
theorem sin_one (q c : Nat) : ∀ v ∈ (sinV q c).toList, v.oneCell' = true := by simp [sinV, Value.oneCell']
theorem codeOf_walk (p : Pt) (w : World) :
    Calls Tryz.prog 97 #[.agg (ptC p).toArray] w fun e w' => ∃ cv, e = .returned (.agg cv) ∧ CodeAt w' cv p ∧ Turn nowhere w w' := by
  obtain ⟨n, ch, st⟩ := p
  unfold ptC
  go_enter Tryz.func97, Tryz.ntmps97
  go_upto_region 1 with fail
  have hb1 := (Blk.new w 176 #[.int .i64 (n : Int), strV ch, strV st]).alloc (.cells #[.nilFunc, .nilFunc, .nilFunc] 192)
  have hb2 := Blk.new (w.alloc (.cells #[.int .i64 (n : Int), strV ch, strV st] 176)) 192 #[.nilFunc, .nilFunc, .nilFunc]
  have ht := ((Turn.refl nowhere w).alloc (.cells #[.int .i64 (n : Int), strV ch, strV st] 176)).alloc (.cells #[.nilFunc, .nilFunc, .nilFunc] 192)
  rw [show (w.alloc (.cells #[.int .i64 (n : Int), strV ch, strV st] 176)).heap.size = w.heap.size + 1 from by simp] at hb2
  generalize ((w.alloc (.cells #[.int .i64 (n : Int), strV ch, strV st] 176)).alloc (.cells #[.nilFunc, .nilFunc, .nilFunc] 192)) = w2 at *
  obtain ⟨b2, hq⟩ : ∃ b2, b2 = w.heap.size + 1 := ⟨_, rfl⟩
  obtain ⟨b1, hp⟩ : ∃ b1, b1 = w.heap.size := ⟨_, rfl⟩
  rw [← hq] at hb2 ⊢
  rw [← hp] at hb1 ⊢
  have HQ := Lib.hid (show w.heap.size < b2 from by omega)
  have HB2 := Lib.hid hb2
  have HT := Lib.hid ht
  clear hq hp ht hb2
  refine wp_region_lit ?_
  refine wpList_run (v := .pointer (some ⟨b1, 2, none⟩)) rfl (exec_field (off := 0) (d := 2) rfl rfl (by kernel_rfl)) ?_
  simp only [Act.put, List.setIfInBounds_toArray, List.set_cons_zero, List.set_cons_succ]
  refine wpList_run (v := strV st) rfl (exec_load1 rfl rfl (by kernel_rfl) (hb1.cell 2)) ?_
  simp only [Act.put, List.setIfInBounds_toArray, List.set_cons_zero, List.set_cons_succ]
  refine wpList_run (v := .bool (st == [])) (w' := w2) rfl (exec_seql (m := []) rfl rfl rfl) ?_
  simp only [Act.put, List.setIfInBounds_toArray, List.set_cons_zero, List.set_cons_succ]
  have c11 : w2.cell? ⟨b1, 1, none⟩ = some (strV ch) := hb1.cell 1
  have c12 : w2.cell? ⟨b1, 2, none⟩ = some (strV st) := hb1.cell 2
  clear hb1
  by_cases hst : st = []
  · have hst1 : (st == []) = true := by simpa using hst
    have HST := Lib.hid hst
    rw [hst1]
    clear hst hst1
    go_wp2_with (first
      | (go_at_call 105; refine (paired_walk ⟨ch.toArray⟩ _).mono ?_; rintro e w3 ⟨q, c, rfl, h1, h2, h3⟩)
      | (refine wpList_store_row rfl 192 (.tmp 2) (.tmp 8) rfl (pairV q c) (HB2.out.turn h3 (fun e => e)) rfl rfl rfl size_code (pair_one q c) ?_; intro w4 h4 h5))
    have e1 : q ≠ b2 := (h1.turn (Turn.refl nowhere _) (fun e => e)).ne_ (HB2.out.turn h3 (fun e => e)) (by decide)
    have e2 : c ≠ b2 := h2.ne_ (HB2.out.turn h3 (fun e => e)) (by decide)
    refine bodyPost_ret (v := .agg (pairV q c)) (results_cell_row rfl _ _ b2 192 _ (0, 0) _ rfl h4 Tryz.underlying192 rfl size_code) rfl
      ⟨_, rfl, .inl ⟨HST.out, q, c, rfl, h1.turn h5 e1, h2.turn h5 e2⟩, ?_⟩
    exact (HT.out.trans h3 (fun _ _ e => e)).trans h5 (fun j hj e => by have := HQ.out; have h : j = b2 := e; omega)
  · have hst1 : (st == []) = false := by simpa using hst
    have HST := Lib.hid hst
    rw [hst1]
    clear hst hst1
    go_wp2_with (first
      | (go_at_call 106; refine (single_walk ⟨ch.toArray⟩ ⟨st.toArray⟩ _).mono ?_; rintro e w3 ⟨q, c, rfl, h1, h2, h3⟩)
      | (refine wpList_store_row rfl 192 (.tmp 2) (.tmp 13) rfl (sinV q c) (HB2.out.turn h3 (fun e => e)) rfl rfl rfl size_code (sin_one q c) ?_; intro w4 h4 h5))
    have e1 : q ≠ b2 := h1.ne_ (HB2.out.turn h3 (fun e => e)) (by decide)
    have e2 : c ≠ b2 := h2.ne_ (HB2.out.turn h3 (fun e => e)) (by decide)
    refine bodyPost_ret (v := .agg (sinV q c)) (results_cell_row rfl _ _ b2 192 _ (0, 0) _ rfl h4 Tryz.underlying192 rfl size_code) rfl
      ⟨_, rfl, .inr ⟨HST.out, q, c, rfl, h1.turn h5 e1, h2.turn h5 e2⟩, ?_⟩
    exact (HT.out.trans h3 (fun _ _ e => e)).trans h5 (fun j hj e => by have := HQ.out; have h : j = b2 := e; omega)
end Go.Proofs.YtfnillibngijaaaGreatDoor
namespace Go.Proofs.YtfnillibngijaaaGreatDoor
open Go.RowKit
open Fdd
set_option linter.unusedVariables false
theorem row_ne {w : World} {B : Nat} {e : TypeId} {sz n g : Nat} {v : Value} {xs : List Value} {t : TypeId} {cs : Array Value} (h : w.ownsRow B e sz v n xs) (hg : Blk w g t cs) (ht : t ≠ e) : ¬ (some g = v.ownBlock) := by
  rcases h.2 with ⟨rfl, _⟩ | ⟨g', cap, cur, rfl, _, hg', _⟩
  · intro e'; cases e'
  · intro e'
    have e2 : g = g' := Option.some.inj e'
    subst e2
    have h1 : w.heap[g]? = some (.cells cs t (0, 0)) := hg
    rw [h1] at hg'
    injection hg' with h2
    injection h2 with _ h3
    exact ht h3
/-- from v to v': what v owns may turn, and nothing else that there was -/
structure Ext (w w' : World) (v v' : Value) : Prop where
  tr : Turn (fun b => some b = v.ownBlock) w w'
  sub : ∀ b, some b = v'.ownBlock → b < w.heap.size → some b = v.ownBlock
theorem Ext.refl (w : World) (v : Value) : Ext w w v v := ⟨Turn.refl _ _, fun _ h _ => h⟩
theorem Ext.trans {w w1 w' : World} {v v1 v' : Value} (h : Ext w w1 v v1) (g : Ext w1 w' v1 v') : Ext w w' v v' where
  tr := h.tr.trans g.tr fun k hk e => h.sub k e hk
  sub := fun b e hb => h.sub b (g.sub b e (Nat.lt_of_lt_of_le hb h.tr.size)) hb
theorem Ext.still {w w1 : World} {v v' : Value} {w' : World} (h : Ext w w1 v v') (ht : Turn nowhere w1 w') : Ext w w' v v' := ⟨h.tr.trans ht fun _ _ e => e.elim, h.sub⟩
theorem Blk.ext {w w' : World} {v v' : Value} {g : Nat} {t : TypeId} {cs : Array Value} (h : Blk w g t cs) (he : Ext w w' v v') (hn : ¬ (some g = v.ownBlock)) : Blk w' g t cs := h.turn he.tr hn
theorem byteInfo : (Tryz.prog.info? 5).map (fun i => (i.zero, i.size, i.bytes)) = some (some (.int .u8 0), 1, 1) := by kernel_rfl
theorem append_news {w : World} {B : Nat} {v : Value} {bs : List UInt8} (hown : Own w B 5 v bs) (hB : B ≤ w.heap.size) (xs : List UInt8) (hlen : bs.length + xs.length ≤ 140737488355328) {m c : Nat} (hm : xs.length = m) :
    ∃ A c' w', (Builtin.append_ #[42, 42] 42 #[v, .slice (some ⟨w.heap.size, 0, none⟩) m c]).run Tryz.prog (w.alloc (.cells (bcs xs).toArray 5)) = .ok (.slice A (bs.length + m) c') w' ∧
      Own w' B 5 (.slice A (bs.length + m) c') (bs ++ xs) ∧ Ext w w' v (.slice A (bs.length + m) c') := by
  subst hm
  obtain ⟨i0, hi0, hz0, hz1, hz2⟩ := info_parts byteInfo
  obtain ⟨v', w', h1, h2, h3, _, h5⟩ := run_append_own_at (P := Tryz.prog) (w.alloc (.cells (bcs xs).toArray 5)) B 42 42 5 i0 _ 1 1 Tryz.underlying42 hi0 hz0 hz1 hz2
    rfl (by omega) v bs.length (bcs bs) (hown.alloc _) ⟨w.heap.size, 0, none⟩ xs.length c (bcs xs) (by rw [bcs_length, Nat.mul_one]) (fun j u hj => by
      rw [add_nat, Nat.zero_add, (Blk.new w 5 (bcs xs).toArray).cell j]
      simpa using hj) (bcs_one xs) (by unfold maxLen; omega) (by omega) (by simp; omega)
  obtain ⟨A, c', rfl⟩ := own_form h2
  refine ⟨A, c', w', h1, ?_, ((Turn.refl _ w).alloc _).grown h3 fun b e hb => e.symm, fun b e hb => ?_⟩
  · unfold Own
    rw [List.length_append, bcs_append]
    exact h2
  · rcases h5 with h5 | h5
    · rw [← h5]
      exact e
    · rw [h5] at e
      have : b = (w.alloc (.cells (bcs xs).toArray 5)).heap.size := Option.some.inj e
      simp at this
      omega
theorem u8_of (x : UInt8) : ((x.toNat : Int).toNat).toUInt8 = x := by simp
theorem index_walk (l : List UInt8) (x : UInt8) (w : World) :
    Calls Tryz.prog 118 #[strV l, .int .u8 (x.toNat : Int)] w fun e w' => e = .returned (.int .i64 (Lib.indexByte l x)) ∧ w' = w := by
  have h := Any.strings_IndexByte Tryz.lays137 ⟨l.toArray⟩ (x.toNat : Int) w
  rw [u8_of] at h
  exact h
theorem place_walk {w : World} {c : Nat} {ch : List UInt8} (hc : Blk w c 9 #[strV ch]) (x : UInt8) (hx : x ∈ ch) (hl : ch.length ≤ 16) :
    Calls Tryz.prog 117 #[.int .u8 (x.toNat : Int), ptrTo c] w fun e w' => e = .returned (.int .u8 ((ch.idxOf x : Nat) : Int)) ∧ w' = w := by
  unfold ptrTo
  have c0 : w.cell? ⟨c, 0, none⟩ = some (strV ch) := hc.cell 0
  have h := index_walk ch x w
  rw [index_mem ch x hx] at h
  have hlt := idx_lt hx
  generalize ch.idxOf x = k at *
  clear hx hc
  go_enter Tryz.func117, Tryz.ntmps117
  go_wp2_with (go_at_call 118; refine h.mono ?_; rintro e w1 ⟨rfl, rfl⟩)
  go_ret
  exact ⟨rfl, rfl⟩
end Go.Proofs.YtfnillibngijaaaGreatDoor
namespace Go.Proofs.YtfnillibngijaaaGreatDoor
open Go.RowKit
open Fdd
set_option linter.unusedVariables false
def TwoS (s c : Nat) (st ch : List UInt8) (W : World) : Prop := Blk W s 9 #[strV st] ∧ Blk W c 9 #[strV ch]
set_option maxHeartbeats 1000000 in
theorem sput_walk {w : World} {s c B : Nat} {st ch t bs : List UInt8} {A0 : Option Addr} {n0 c0 : Nat} (hs : Blk w s 9 #[strV st]) (hc : Blk w c 9 #[strV ch]) (ht : onlyOf t ch = true) (hl : st.length = ch.length) (hown : Own w B 5 (.slice A0 n0 c0) bs) (hB : B ≤ w.heap.size)
    (hlen : bs.length + t.length ≤ 140737488355328) (ht1 : t.length ≤ 1000) (hch : ch.length ≤ 1000) :
    Calls Tryz.prog 123 #[.slice A0 n0 c0, strV t, ptrTo s, ptrTo c] w fun e w' => ∃ A n c', e = .returned (.slice A n c') ∧ Own w' B 5 (.slice A n c') (bs ++ t.map (one ch st)) ∧ Ext w w' (.slice A0 n0 c0) (.slice A n c') := by
  unfold ptrTo
  have HS := Lib.hid hs
  have HC := Lib.hid hc
  have HT := Lib.hid ht
  have HL := Lib.hid hl
  have HO := Lib.hid hown
  have HB := Lib.hid hB
  have HN := Lib.hid hlen
  have HT1 := Lib.hid ht1
  have HCH := Lib.hid hch
  clear hs hc ht hl hown hB hlen ht1 hch
  go_enter Tryz.func123, Tryz.ntmps123
  go_upto_region 1 with fail
  refine wp_region_lit ?_
  refine wpList_run (v := strV t) rfl (exec_move rfl rfl) ?_
  simp only [Act.put, List.setIfInBounds_toArray, List.set_cons_zero, List.set_cons_succ]
  refine wpList_run (v := .int .i64 (t.length : Int)) (w' := w) rfl (exec_slen rfl rfl) ?_
  simp only [Act.put, List.setIfInBounds_toArray, List.set_cons_zero, List.set_cons_succ]
  obtain ⟨len, hlen⟩ : ∃ len, t.length = len := ⟨_, rfl⟩
  rw [hlen]
  have HLEN := Lib.hid hlen
  clear hlen
  go_wp2_with fail
  go_loopg [0, 10] len (fun gk b i wr => ∃ (k : Nat) (A : Option Addr) (n c' : Nat), k + gk = len ∧ i = .int .i64 (k : Int) ∧ b = .slice A n c' ∧ Own wr B 5 (.slice A n c') (bs ++ (t.take k).map (one ch st)) ∧ Ext w wr (.slice A0 n0 c0) (.slice A n c'))
  case atStart => exact ⟨0, _, _, _, by omega, rfl, rfl, by simpa using HO.out, Ext.refl _ _⟩
  case round =>
    obtain ⟨k, A, n, c', hkl, rfl, rfl, hO, hE⟩ := hrel
    have HKL := Lib.hid hkl
    have HO' := Lib.hid hO
    have HE := Lib.hid hE
    clear hkl hO hE
    by_cases hlt : k < len
    · have y1 : (k : Int) < (len : Int) := by omega
      have y2 : (0 : Int) ≤ (k : Int) := by omega
      have y3 : (len : Int) ≤ 1000 := by have := HT1.out; have := HLEN.out; omega
      have HLT := Lib.hid hlt
      clear hlt
      go_upto_region 4 with fail
      have hk : k < t.length := by rw [HLEN.out]; exact HLT.out
      have hmem : t.getD k 0 ∈ ch := by
        rw [List.getD_eq_getElem?_getD, List.getElem?_eq_getElem hk]
        exact onlyOf_mem HT.out (List.getElem_mem _)
      have htk : (t.take (k + 1)).map (one ch st) = (t.take k).map (one ch st) ++ [one ch st (t.getD k 0)] := by
        rw [List.take_add_one, List.getElem?_eq_getElem hk, List.map_append, List.getD_eq_getElem?_getD, List.getElem?_eq_getElem hk]
        rfl
      have HK := Lib.hid hk
      have HTK := Lib.hid htk
      have hiw := index_walk ch (t.getD k 0)
      have hix := idx_lt hmem
      have hone : one ch st (t.getD k 0) = st.getD (ch.idxOf (t.getD k 0)) 0 := rfl
      rw [index_mem ch _ hmem] at hiw
      generalize ch.idxOf (t.getD k 0) = ix at *
      have HIW := Lib.hid hiw
      have HIX := Lib.hid hix
      have HONE := Lib.hid hone
      clear hiw hix hone hmem hk htk
      have hS0 : TwoS s c st ch wr.drew := ⟨(HS.out.ext HE.out (row_ne HO.out HS.out (by decide))).drew, (HC.out.ext HE.out (row_ne HO.out HC.out (by decide))).drew⟩
      refine wp_region_till (TwoS s c st ch) 7 (by kernel_rfl) ?_
      refine till_pure (i := 0) (v := .slice A n c') rfl (by kernel_rfl) (by kernel_rfl) (fun _ _ _ h => h) (.inl ⟨by rfl, fun W hW => exec_move rfl rfl⟩) hS0 ?_
      simp only [Act.put, List.setIfInBounds_toArray, List.set_cons_zero, List.set_cons_succ]
      refine till_take (i := 1) (v := strV st) rfl (by kernel_rfl) (by kernel_rfl) (fun _ _ _ h => h) (.inl ⟨by rfl, fun W hW => exec_load1 rfl rfl (by kernel_rfl) (hW.1.cell 0)⟩) hS0 ?_
      simp only [Act.put, List.setIfInBounds_toArray, List.set_cons_zero, List.set_cons_succ]
      refine till_take2 6 (i := 2) (v := strV ch) rfl (by kernel_rfl) (by kernel_rfl) (fun _ _ _ h => h) (.inl ⟨by rfl, fun W hW => exec_load1 rfl rfl (by kernel_rfl) (hW.2.cell 0)⟩) hS0 ?_
      simp only [Act.put, List.setIfInBounds_toArray, List.set_cons_zero, List.set_cons_succ]
      refine till_pure (i := 3) (v := strV t) rfl (by kernel_rfl) (by kernel_rfl) (fun _ _ _ h => h) (.inl ⟨by rfl, fun W hW => exec_move rfl rfl⟩) hS0 ?_
      simp only [Act.put, List.setIfInBounds_toArray, List.set_cons_zero, List.set_cons_succ]
      refine till_pure (i := 4) (v := .int .i64 (k : Int)) rfl (by kernel_rfl) (by kernel_rfl) (fun _ _ _ h => h) (.inl ⟨by rfl, fun W hW => exec_move rfl rfl⟩) hS0 ?_
      simp only [Act.put, List.setIfInBounds_toArray, List.set_cons_zero, List.set_cons_succ]
      refine till_pure (i := 5) (v := .int .u8 ((t.getD k 0).toNat : Int)) rfl (by kernel_rfl) (by kernel_rfl) (fun _ _ _ h => h) (.inl ⟨by rfl, fun W hW => exec_sidx rfl rfl rfl HK.out⟩) hS0 ?_
      simp only [Act.put, List.setIfInBounds_toArray, List.set_cons_zero, List.set_cons_succ]
      refine till_step (i := 6) (by kernel_rfl) rfl rfl ?_
      intro K1 HK1
      go_wp2_with fail
      refine (HIW.out _).mono ?_
      rintro e w5 ⟨rfl, rfl⟩
      refine HK1.out _ _ ⟨fun _ => hS0, ?_⟩
      clear HK1
      refine till_tail 7 rfl (by kernel_rfl) ?_
      refine wpList_run (v := .int .u8 ((one ch st (t.getD k 0)).toNat : Int)) rfl (by rw [HONE.out]; exact exec_sidx rfl rfl rfl (by rw [HL.out]; exact HIX.out)) ?_
      simp only [Act.put, List.setIfInBounds_toArray, List.set_cons_zero, List.set_cons_succ]
      obtain ⟨i0, hi0, hz0, hz1, hz2⟩ := info_parts byteInfo
      refine wpList_run (v := _) rfl (exec_buildSlice1 rfl rfl (run_buildSlice_one (v := .int .u8 ((one ch st (t.getD k 0)).toNat : Int)) Tryz.underlying42 hi0 hz0 (by rw [hz1]; rfl) (by rw [hz1]; rfl) (by omega) (by omega) _)) ?_
      simp only [Act.put, List.setIfInBounds_toArray, List.set_cons_zero, List.set_cons_succ]
      obtain ⟨A6, c6, w6, hrun, hown6, hext6⟩ := append_news (m := 1) (c := 1) (w := wr.drew) HO'.out.drew (Nat.le_trans HB.out HE.out.tr.size) [one ch st (t.getD k 0)] (by rw [List.length_append, List.length_map, List.length_take]; have := HN.out; have := HK.out; simp; omega) rfl
      refine wpList_run (v := .slice A6 ((bs ++ (t.take k).map (one ch st)).length + 1) c6) (w' := w6) rfl (exec_append rfl rfl rfl hrun) ?_
      simp only [Act.put, List.setIfInBounds_toArray, List.set_cons_zero, List.set_cons_succ]
      have HO6 := Lib.hid hown6
      have HE6 := Lib.hid hext6
      clear hrun hown6 hext6 hS0
      generalize ((bs ++ (t.take k).map (one ch st)).length + 1) = n6 at *
      go_wp2_with fail
      refine NoPanic.normal ?_
      go_wp2_with fail
      go_roundg (gk - 1)
      case measure => have := HKL.out; have := HLT.out; omega
      case rel =>
        refine ⟨k + 1, A6, n6, c6, by have := HKL.out; have := HLT.out; omega, by go_num, rfl, ?_, ?_⟩
        · rw [HTK.out, ← List.append_assoc]
          exact HO6.out
        · exact (HE.out.still (Turn.drew (Turn.refl _ _))).trans HE6.out
    · have hke : k = len := by have := HKL.out; omega
      have y1 : ¬ ((k : Int) < (len : Int)) := by omega
      clear hlt
      have HKE := Lib.hid hke
      clear hke
      go_wp2_with fail
      go_ret
      refine ⟨A, n, c', rfl, ?_, HE.out⟩
      have := HO'.out
      rwa [List.take_of_length_le (by rw [HLEN.out, HKE.out]; exact Nat.le_refl _)] at this
end Go.Proofs.YtfnillibngijaaaGreatDoor
namespace Go.Proofs.YtfnillibngijaaaGreatDoor
open Go.RowKit
open Fdd
set_option linter.unusedVariables false
theorem bs_turn {w w' : World} {A : Option Addr} {n : Nat} {bs : List UInt8} (h : Bs w A n bs) (ht : Turn nowhere w w') : Bs w' A n bs := by
  obtain ⟨h1, h2, h3⟩ := h
  refine ⟨h1, h2, fun hp => ?_⟩
  obtain ⟨b, off, e, hc⟩ := h3 hp
  exact ⟨b, off, e, fun i hi => by rw [ht.cell (World.block_lt_of_cell? _ _ (hc i hi)) (fun e => e)]; exact hc i hi⟩
theorem exec_makeV {P : Program} {a : Act} {o : Oper} {t : TypeId} {x y : Operand} {u u' v : Value} {W W' : World} (ho : o.op = .makeSlice t x y) (hx : a.eval x = u) (hy : a.eval y = u') (h : (Instr.makeSlice t u u').run P W = .ok v W') : (execOp a.eval o).run P W = .ok (.value v) W' := by
  unfold execOp
  simp only [ho, hx, hy, h, Sem.run_bind, Sem.run_pure, Result.andThen_ok]
end Go.Proofs.YtfnillibngijaaaGreatDoor
