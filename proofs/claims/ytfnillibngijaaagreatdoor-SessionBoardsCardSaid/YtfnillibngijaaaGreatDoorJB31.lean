/-
  Texts in one file: SsQ SsR SsS. Conditions: the tables and the errors read as the program's text lays them.
-/
import Derived.Test.YtfnillibngijaaaGreatDoorJB30
import Derived.Test.YtfnillibngijaaaGreatDoorJB1
import Derived.Test.YtfnillibngijaaaGreatDoorJB2
import Derived.Test.YtfnillibngijaaaGreatDoorJB8
namespace Go.Proofs.YtfnillibngijaaaGreatDoor
open Go.RowKit
open Sh (Wd B8 H8)
set_option linter.unusedVariables false
set_option linter.unusedSimpArgs false
set_option maxRecDepth 20000
theorem elmL : Elm Tryz.prog 37 4 1 1 (.bool false) := ⟨Tryz.underlying37, by kernel_rfl, rfl, by decide, by decide⟩
/-- who is signed on (0) or blocked (1), a row -/
def bR (k n : Nat) (l : List Bool) : List (List Value) := (List.range n).map fun i => [.bool (l.getD (2 * i + k) false)]
theorem bR_len (k n : Nat) (l : List Bool) : (bR k n l).length = n := by simp [bR]
theorem bR_at (k : Nat) {n i : Nat} (l : List Bool) (h : i < n) : (bR k n l)[i]? = some [.bool (l.getD (2 * i + k) false)] := by
  unfold bR
  rw [List.getElem?_map, List.getElem?_range h]
  rfl
theorem bR_fit (k n : Nat) (l : List Bool) : Fit 1 (bR k n l) := fun r hr => by
  obtain ⟨i, _, rfl⟩ := List.mem_map.1 hr
  refine ⟨rfl, fun u hu => ?_⟩
  rw [List.mem_singleton] at hu
  subst hu
  rfl
theorem none_at (j : Nat) : none12.getD j false = false := by
  unfold none12
  rw [List.getD_eq_getElem?_getD, List.getElem?_replicate]
  split <;> rfl
theorem bR_none (k n : Nat) : List.replicate n (Value.bool false).cells.toList = bR k n none12 := by
  unfold bR
  refine List.ext_getElem? fun i => ?_
  rw [List.getElem?_replicate, List.getElem?_map]
  by_cases h : i < n
  · rw [if_pos h, List.getElem?_range h]
    simp only [Option.map_some, none_at]
    rfl
  · rw [if_neg h, List.getElem?_eq_none (by simpa using h)]
    rfl
theorem one_bl (x : Bool) : ∀ u ∈ (Value.bool x).cells.toList, u.oneCell' = true := fun u hu => by
  obtain rfl : u = Value.bool x := by simpa [Value.cells] using hu
  rfl
/-- a board of the reference in memory: its block y, its rows s and b -/
structure RBd (w : World) (y s b n : Nat) (l : List Bool) : Prop where
  row : ∃ cs cb, Blk w y 39 #[.slice (some ⟨s, 0, none⟩) n cs, .slice (some ⟨b, 0, none⟩) n cb] ∧ Orw w 0 4 1 (.slice (some ⟨s, 0, none⟩) n cs) (bR 0 n l) ∧ Orw w 0 4 1 (.slice (some ⟨b, 0, none⟩) n cb) (bR 1 n l)
  ne : s ≠ b
  lo : 1 ≤ n
  hi : n ≤ 6
theorem own_blk {s n c g : Nat} (h : (Value.slice (some ⟨s, 0, none⟩) n c).ownBlock = some g) : s = g := Option.some.inj h
theorem RBd.turn {F : Nat → Prop} {w w' : World} {y s b n : Nat} {l : List Bool} (h : RBd w y s b n l) (ht : Turn F w w') (hy : ¬ F y) (hs : ¬ F s) (hb : ¬ F b) : RBd w' y s b n l := by
  obtain ⟨cs, cb, h1, h2, h3⟩ := h.row
  exact ⟨⟨cs, cb, h1.turn ht hy, h2.turn ht (fun g e => (own_blk e) ▸ hs), h3.turn ht (fun g e => (own_blk e) ▸ hb)⟩, h.ne, h.lo, h.hi⟩
theorem RBd.still {w w' : World} {y s b n : Nat} {l : List Bool} (h : RBd w y s b n l) (ht : Turn nowhere w w') : RBd w' y s b n l := h.turn ht (fun e => e) (fun e => e) fun e => e
set_option maxRecDepth 20000 in
set_option maxHeartbeats 4000000 in
theorem There_walk {w : World} {y s b n : Nat} {m : Int} {l : List Bool} (h : RBd w y s b n l) : Calls Tryz.prog 9 #[.pointer (some ⟨y, 0, none⟩), .int .i64 m] w fun e w' => e = .returned (.bool (decide (isM n m))) ∧ w = w' := by
  obtain ⟨cs, cb, hb1, -, -⟩ := h.row
  have H := Lib.hid hb1
  clear h hb1
  go_enter Tryz.func9, Tryz.ntmps9
  by_cases h0 : 0 ≤ m
  · have H0 := Lib.hid h0
    have HD := Lib.hid (show decide (m < (n : Int)) = decide (isM n m) from decide_eq_decide.2 ⟨fun h => ⟨h0, h⟩, fun h => h.2⟩)
    clear h0
    go_upto_region 0 with fail
    refine wp_region_lit ?_
    refine wpList_run (v := .bool false) (wanted_none rfl) (gx_assign rfl rfl) ?_
    simp only [Act.put, List.setIfInBounds_toArray, List.set_cons_zero, List.set_cons_succ]
    go_upto_region 1 with fail
    refine wp_region_lit ?_
    refine wpList_run (v := .int .i64 m) (wanted_none rfl) (exec_move rfl rfl) ?_
    simp only [Act.put, List.setIfInBounds_toArray, List.set_cons_zero, List.set_cons_succ]
    refine wpList_run (v := .bool true) (wanted_none rfl) (ix_geq rfl rfl rfl (decide_eq_true H0.out)) ?_
    simp only [Act.put, List.setIfInBounds_toArray, List.set_cons_zero, List.set_cons_succ]
    refine wpList_run (v := .bool true) (wanted_none rfl) (exec_move rfl rfl) ?_
    simp only [Act.put, List.setIfInBounds_toArray, List.set_cons_zero, List.set_cons_succ]
    refine wpList_run (v := .int .i64 m) rfl (exec_move rfl rfl) ?_
    simp only [Act.put, List.setIfInBounds_toArray, List.set_cons_zero, List.set_cons_succ]
    refine wpList_run (v := .pointer (some ⟨y, 0, none⟩)) rfl (exec_move rfl rfl) ?_
    simp only [Act.put, List.setIfInBounds_toArray, List.set_cons_zero, List.set_cons_succ]
    refine wpList_run (v := .pointer (some ⟨y, 0, none⟩)) rfl (exec_nil rfl rfl) ?_
    simp only [Act.put, List.setIfInBounds_toArray, List.set_cons_zero, List.set_cons_succ]
    refine wpList_run (v := .pointer (some ⟨y, 0, none⟩)) rfl (exec_field (off := 0) (d := 0) rfl rfl (by kernel_rfl)) ?_
    simp only [Act.put, List.setIfInBounds_toArray, List.set_cons_zero, List.set_cons_succ]
    refine wpList_run (v := .slice (some ⟨s, 0, none⟩) n cs) rfl (exec_load1 rfl rfl (by kernel_rfl) (H.out.cell 0)) ?_
    simp only [Act.put, List.setIfInBounds_toArray, List.set_cons_zero, List.set_cons_succ]
    refine wpList_run (v := .int .i64 (n : Int)) rfl (gx_len rfl rfl Tryz.underlying37) ?_
    simp only [Act.put, List.setIfInBounds_toArray, List.set_cons_zero, List.set_cons_succ]
    refine wpList_run (v := .bool (decide (isM n m))) rfl (ix_lss rfl rfl rfl HD.out) ?_
    simp only [Act.put, List.setIfInBounds_toArray, List.set_cons_zero, List.set_cons_succ]
    refine wpList_run (v := .bool (decide (isM n m))) (wanted_none rfl) (ix_pickT rfl rfl rfl) ?_
    simp only [Act.put, List.setIfInBounds_toArray, List.set_cons_zero, List.set_cons_succ]
    refine wpList_run (v := .bool (decide (isM n m))) (wanted_none rfl) (gx_assign rfl rfl) ?_
    simp only [Act.put, List.setIfInBounds_toArray, List.set_cons_zero, List.set_cons_succ]
    go_wp2_with fail
    go_ret
    exact ⟨rfl, rfl⟩
  · have H0 := Lib.hid h0
    have HD := Lib.hid (show decide (isM n m) = false from decide_eq_false fun h => h0 h.1)
    clear h0
    go_upto_region 0 with fail
    refine wp_region_lit ?_
    refine wpList_run (v := .bool false) (wanted_none rfl) (gx_assign rfl rfl) ?_
    simp only [Act.put, List.setIfInBounds_toArray, List.set_cons_zero, List.set_cons_succ]
    go_upto_region 1 with fail
    refine wp_region_lit ?_
    refine wpList_run (v := .int .i64 m) (wanted_none rfl) (exec_move rfl rfl) ?_
    simp only [Act.put, List.setIfInBounds_toArray, List.set_cons_zero, List.set_cons_succ]
    refine wpList_run (v := .bool false) (wanted_none rfl) (ix_geq rfl rfl rfl (decide_eq_false H0.out)) ?_
    simp only [Act.put, List.setIfInBounds_toArray, List.set_cons_zero, List.set_cons_succ]
    refine wpList_run (v := .bool false) (wanted_none rfl) (exec_move rfl rfl) ?_
    simp only [Act.put, List.setIfInBounds_toArray, List.set_cons_zero, List.set_cons_succ]
    refine wpList_skip (by go_simp) ?_
    simp only [Act.put, List.setIfInBounds_toArray, List.set_cons_zero, List.set_cons_succ]
    refine wpList_skip (by go_simp) ?_
    simp only [Act.put, List.setIfInBounds_toArray, List.set_cons_zero, List.set_cons_succ]
    refine wpList_skip (by go_simp) ?_
    simp only [Act.put, List.setIfInBounds_toArray, List.set_cons_zero, List.set_cons_succ]
    refine wpList_skip (by go_simp) ?_
    simp only [Act.put, List.setIfInBounds_toArray, List.set_cons_zero, List.set_cons_succ]
    refine wpList_skip (by go_simp) ?_
    simp only [Act.put, List.setIfInBounds_toArray, List.set_cons_zero, List.set_cons_succ]
    refine wpList_skip (by go_simp) ?_
    simp only [Act.put, List.setIfInBounds_toArray, List.set_cons_zero, List.set_cons_succ]
    refine wpList_skip (by go_simp) ?_
    simp only [Act.put, List.setIfInBounds_toArray, List.set_cons_zero, List.set_cons_succ]
    refine wpList_run (v := .bool false) (wanted_none rfl) (ix_pickF rfl rfl rfl) ?_
    simp only [Act.put, List.setIfInBounds_toArray, List.set_cons_zero, List.set_cons_succ]
    refine wpList_run (v := .bool false) (wanted_none rfl) (gx_assign rfl rfl) ?_
    simp only [Act.put, List.setIfInBounds_toArray, List.set_cons_zero, List.set_cons_succ]
    go_wp2_with fail
    go_ret
    rw [HD.out]
    exact ⟨rfl, rfl⟩
theorem build_rb (s1 n1 c1 s2 n2 c2 : Nat) (W : World) : (Instr.build 39 #[(0, .slice (some ⟨s1, 0, none⟩) n1 c1), (1, .slice (some ⟨s2, 0, none⟩) n2 c2)]).run Tryz.prog W = .ok (.agg #[.slice (some ⟨s1, 0, none⟩) n1 c1, .slice (some ⟨s2, 0, none⟩) n2 c2]) W := by kernel_rfl
theorem box_rb (s1 n1 c1 s2 n2 c2 : Nat) (w : World) : (Instr.box 39 (.agg #[.slice (some ⟨s1, 0, none⟩) n1 c1, .slice (some ⟨s2, 0, none⟩) n2 c2])).run Tryz.prog w = .ok (.pointer (some ⟨w.heap.size, 0, none⟩)) (w.alloc (.cells #[.slice (some ⟨s1, 0, none⟩) n1 c1, .slice (some ⟨s2, 0, none⟩) n2 c2] 39)) := by
  simp [Instr.box, newVar, newRow, Result.andThen, Value.cells]
set_option maxRecDepth 20000 in
set_option maxHeartbeats 4000000 in
theorem rReady_walk {w : World} {y s b n : Nat} {m : Int} {l : List Bool} (h : RBd w y s b n l) : Calls Tryz.prog 20 #[.pointer (some ⟨y, 0, none⟩), .int .i64 m] w fun e w' => e = .returned (.bool (readyL n m l)) ∧ w = w' := by
  have HH := Lib.hid h
  obtain ⟨cs, cb, hb1, ho1, ho2⟩ := h.row
  have H := Lib.hid hb1
  have HS := Lib.hid ho1
  have HB := Lib.hid ho2
  clear hb1 ho1 ho2
  go_enter Tryz.func20, Tryz.ntmps20
  go_upto_region 0 with fail
  refine wp_region_lit ?_
  refine wpList_run (v := .bool false) (wanted_none rfl) (gx_assign rfl rfl) ?_
  simp only [Act.put, List.setIfInBounds_toArray, List.set_cons_zero, List.set_cons_succ]
  go_upto_region 1 with fail
  first
  | (rename_i K9 hK9; have HKC := Lib.hid hK9; clear hK9)
  | (rename_i K9 hK9 K8; have HKC := Lib.hid hK9; clear hK9)
  refine wp_region_lit ?_
  refine wpList_run (v := .pointer (some ⟨y, 0, none⟩)) (wanted_none rfl) (exec_move rfl rfl) ?_
  simp only [Act.put, List.setIfInBounds_toArray, List.set_cons_zero, List.set_cons_succ]
  refine wpList_run (v := .int .i64 m) (wanted_none rfl) (exec_move rfl rfl) ?_
  simp only [Act.put, List.setIfInBounds_toArray, List.set_cons_zero, List.set_cons_succ]
  refine wpList_op_g rfl fun K9 HK9 => ?_
  go_wp2_with fail
  refine (There_walk (m := m) HH.out).mono ?_
  rintro e w2 ⟨rfl, rfl⟩
  refine HK9.out _ _ ?_
  clear HK9
  try simp only [Act.put, List.setIfInBounds_toArray, List.set_cons_zero, List.set_cons_succ]
  by_cases hm : isM n m
  · obtain ⟨i, rfl, hi6⟩ := isM_nat hm (by have := h.hi; omega)
    have HI := Lib.hid (show i < n from by have := hm.2; omega)
    have HQ1 := Lib.hid (show lookL 0 n (i : Int) l = l.getD (2 * i + 0) false from if_pos hm)
    have HQ2 := Lib.hid (show lookL 1 n (i : Int) l = l.getD (2 * i + 1) false from if_pos hm)
    have HC1 := Lib.hid (HS.out.el0 (bR_at 0 l HI.out) 0 _ rfl)
    have HC2 := Lib.hid (HB.out.el0 (bR_at 1 l HI.out) 0 _ rfl)
    rw [decide_eq_true hm]
    have HRL := Lib.hid (show readyL n (i : Int) l = (l.getD (2 * i + 0) false && !l.getD (2 * i + 1) false) from by unfold readyL; rw [HQ1.out, HQ2.out])
    clear hm hi6 h
    generalize l.getD (2 * i + 0) false = x1 at HC1 HRL
    generalize l.getD (2 * i + 1) false = x2 at HC2 HRL
    cases x1 with
    | false =>
      refine wpList_run (v := .bool true) (wanted_none rfl) (exec_move rfl rfl) ?_
      simp only [Act.put, List.setIfInBounds_toArray, List.set_cons_zero, List.set_cons_succ]
      refine wpList_run (v := .pointer (some ⟨y, 0, none⟩)) rfl (exec_move rfl rfl) ?_
      simp only [Act.put, List.setIfInBounds_toArray, List.set_cons_zero, List.set_cons_succ]
      refine wpList_run (v := .pointer (some ⟨y, 0, none⟩)) rfl (exec_nil rfl rfl) ?_
      simp only [Act.put, List.setIfInBounds_toArray, List.set_cons_zero, List.set_cons_succ]
      refine wpList_run (v := .pointer (some ⟨y, 0, none⟩)) rfl (exec_field (off := 0) (d := 0) rfl rfl (by kernel_rfl)) ?_
      simp only [Act.put, List.setIfInBounds_toArray, List.set_cons_zero, List.set_cons_succ]
      refine wpList_run (v := .slice (some ⟨s, 0, none⟩) n cs) rfl (exec_load1 rfl rfl (by kernel_rfl) (H.out.cell 0)) ?_
      simp only [Act.put, List.setIfInBounds_toArray, List.set_cons_zero, List.set_cons_succ]
      refine wpList_run (v := .int .i64 (i : Int)) rfl (exec_move rfl rfl) ?_
      simp only [Act.put, List.setIfInBounds_toArray, List.set_cons_zero, List.set_cons_succ]
      refine wpList_run (v := .pointer (some ⟨s, 0 + i * 1, none⟩)) rfl (gx_iaddr (i := i) (sz := 1) rfl rfl rfl Tryz.underlying37 size_bl HI.out rfl) ?_
      simp only [Act.put, List.setIfInBounds_toArray, List.set_cons_zero, List.set_cons_succ]
      refine wpList_run (v := .bool false) rfl (exec_load1 rfl rfl (by kernel_rfl) HC1.out) ?_
      simp only [Act.put, List.setIfInBounds_toArray, List.set_cons_zero, List.set_cons_succ]
      refine wpList_run (v := .bool false) (wanted_none rfl) (ix_pickT rfl rfl rfl) ?_
      simp only [Act.put, List.setIfInBounds_toArray, List.set_cons_zero, List.set_cons_succ]
      go_wp2_with fail
      refine HKC.out _ _ ?_
      clear HKC
      go_wp2_with fail
      go_ret
      rw [HRL.out]
      exact ⟨rfl, rfl⟩
    | true =>
      refine wpList_run (v := .bool true) (wanted_none rfl) (exec_move rfl rfl) ?_
      simp only [Act.put, List.setIfInBounds_toArray, List.set_cons_zero, List.set_cons_succ]
      refine wpList_run (v := .pointer (some ⟨y, 0, none⟩)) rfl (exec_move rfl rfl) ?_
      simp only [Act.put, List.setIfInBounds_toArray, List.set_cons_zero, List.set_cons_succ]
      refine wpList_run (v := .pointer (some ⟨y, 0, none⟩)) rfl (exec_nil rfl rfl) ?_
      simp only [Act.put, List.setIfInBounds_toArray, List.set_cons_zero, List.set_cons_succ]
      refine wpList_run (v := .pointer (some ⟨y, 0, none⟩)) rfl (exec_field (off := 0) (d := 0) rfl rfl (by kernel_rfl)) ?_
      simp only [Act.put, List.setIfInBounds_toArray, List.set_cons_zero, List.set_cons_succ]
      refine wpList_run (v := .slice (some ⟨s, 0, none⟩) n cs) rfl (exec_load1 rfl rfl (by kernel_rfl) (H.out.cell 0)) ?_
      simp only [Act.put, List.setIfInBounds_toArray, List.set_cons_zero, List.set_cons_succ]
      refine wpList_run (v := .int .i64 (i : Int)) rfl (exec_move rfl rfl) ?_
      simp only [Act.put, List.setIfInBounds_toArray, List.set_cons_zero, List.set_cons_succ]
      refine wpList_run (v := .pointer (some ⟨s, 0 + i * 1, none⟩)) rfl (gx_iaddr (i := i) (sz := 1) rfl rfl rfl Tryz.underlying37 size_bl HI.out rfl) ?_
      simp only [Act.put, List.setIfInBounds_toArray, List.set_cons_zero, List.set_cons_succ]
      refine wpList_run (v := .bool true) rfl (exec_load1 rfl rfl (by kernel_rfl) HC1.out) ?_
      simp only [Act.put, List.setIfInBounds_toArray, List.set_cons_zero, List.set_cons_succ]
      refine wpList_run (v := .bool true) (wanted_none rfl) (ix_pickT rfl rfl rfl) ?_
      simp only [Act.put, List.setIfInBounds_toArray, List.set_cons_zero, List.set_cons_succ]
      refine wpList_run (v := .bool true) (wanted_none rfl) (exec_move rfl rfl) ?_
      simp only [Act.put, List.setIfInBounds_toArray, List.set_cons_zero, List.set_cons_succ]
      refine wpList_run (v := .pointer (some ⟨y, 0, none⟩)) rfl (exec_move rfl rfl) ?_
      simp only [Act.put, List.setIfInBounds_toArray, List.set_cons_zero, List.set_cons_succ]
      refine wpList_run (v := .pointer (some ⟨y, 0, none⟩)) rfl (exec_nil rfl rfl) ?_
      simp only [Act.put, List.setIfInBounds_toArray, List.set_cons_zero, List.set_cons_succ]
      refine wpList_run (v := .pointer (some ⟨y, 1, none⟩)) rfl (exec_field (off := 0) (d := 1) rfl rfl (by kernel_rfl)) ?_
      simp only [Act.put, List.setIfInBounds_toArray, List.set_cons_zero, List.set_cons_succ]
      refine wpList_run (v := .slice (some ⟨b, 0, none⟩) n cb) rfl (exec_load1 rfl rfl (by kernel_rfl) (H.out.cell 1)) ?_
      simp only [Act.put, List.setIfInBounds_toArray, List.set_cons_zero, List.set_cons_succ]
      refine wpList_run (v := .int .i64 (i : Int)) rfl (exec_move rfl rfl) ?_
      simp only [Act.put, List.setIfInBounds_toArray, List.set_cons_zero, List.set_cons_succ]
      refine wpList_run (v := .pointer (some ⟨b, 0 + i * 1, none⟩)) rfl (gx_iaddr (i := i) (sz := 1) rfl rfl rfl Tryz.underlying37 size_bl HI.out rfl) ?_
      simp only [Act.put, List.setIfInBounds_toArray, List.set_cons_zero, List.set_cons_succ]
      refine wpList_run (v := .bool x2) rfl (exec_load1 rfl rfl (by kernel_rfl) HC2.out) ?_
      simp only [Act.put, List.setIfInBounds_toArray, List.set_cons_zero, List.set_cons_succ]
      refine wpList_run (v := .bool (!x2)) rfl (ix_not rfl rfl) ?_
      simp only [Act.put, List.setIfInBounds_toArray, List.set_cons_zero, List.set_cons_succ]
      refine wpList_run (v := .bool (!x2)) (wanted_none rfl) (ix_pickT rfl rfl rfl) ?_
      simp only [Act.put, List.setIfInBounds_toArray, List.set_cons_zero, List.set_cons_succ]
      go_wp2_with fail
      refine HKC.out _ _ ?_
      clear HKC
      go_wp2_with fail
      go_ret
      rw [HRL.out]
      exact ⟨by rw [Bool.true_and]; rfl, rfl⟩
  · have HRL := Lib.hid (show readyL n m l = false from by unfold readyL lookL; rw [if_neg hm]; rfl)
    rw [decide_eq_false hm]
    clear hm h
    go_wp2_with fail
    refine HKC.out _ _ ?_
    clear HKC
    go_wp2_with fail
    go_ret
    rw [HRL.out]
    exact ⟨rfl, rfl⟩
end Go.Proofs.YtfnillibngijaaaGreatDoor
namespace Go.Proofs.YtfnillibngijaaaGreatDoor
open Go.RowKit
open Sh (Wd B8 H8)
set_option linter.unusedVariables false
set_option linter.unusedSimpArgs false
set_option maxRecDepth 20000
set_option maxRecDepth 20000 in
set_option maxHeartbeats 4000000 in
theorem rNew_walk (w : World) (m : Int) : Calls Tryz.prog 6 #[.int .i64 m] w fun e w' =>
    (∃ n y s b : Nat, m = (n : Int) ∧ e = .returned (.tuple #[.pointer (some ⟨y, 0, none⟩), .int .i64 0]) ∧ RBd w' y s b n none12 ∧ w.heap.size ≤ y ∧ w.heap.size ≤ s ∧ w.heap.size ≤ b ∧ Turn nowhere w w') ∨ (¬ okN m ∧ e = .returned (.tuple #[.pointer none, .int .i64 130]) ∧ Turn nowhere w w') := by
  rcases (by omega : m < 1 ∨ 6 < m ∨ (1 ≤ m ∧ m ≤ 6)) with h | h | h
  · have HN := Lib.hid (show ¬ okN m from fun h2 => by have := h2.1; have := h2.2; omega)
    have H0 := Lib.hid h
    clear h
    go_enter Tryz.func6, Tryz.ntmps6
    go_upto_region 0 with fail
    refine wp_region_lit ?_
    refine wpList_run (v := .pointer none) (wanted_none rfl) (gx_assign rfl rfl) ?_
    simp only [Act.put, List.setIfInBounds_toArray, List.set_cons_zero, List.set_cons_succ]
    refine wpList_run (v := .int .i64 0) (wanted_none rfl) (gx_assign rfl rfl) ?_
    simp only [Act.put, List.setIfInBounds_toArray, List.set_cons_zero, List.set_cons_succ]
    go_upto_region 1 with fail
    first
    | (rename_i K9 hK9; have HKC := Lib.hid hK9; clear hK9)
    | (rename_i K9 hK9 K8; have HKC := Lib.hid hK9; clear hK9)
    refine wp_region_lit ?_
    refine wpList_run (v := .int .i64 m) (wanted_none rfl) (exec_move rfl rfl) ?_
    simp only [Act.put, List.setIfInBounds_toArray, List.set_cons_zero, List.set_cons_succ]
    refine wpList_run (v := .bool true) (wanted_none rfl) (ix_lss rfl rfl rfl (decide_eq_true H0.out)) ?_
    simp only [Act.put, List.setIfInBounds_toArray, List.set_cons_zero, List.set_cons_succ]
    refine wpList_run (v := .bool true) (wanted_none rfl) (exec_move rfl rfl) ?_
    simp only [Act.put, List.setIfInBounds_toArray, List.set_cons_zero, List.set_cons_succ]
    go_wp2_with fail
    refine HKC.out _ _ ?_
    clear HKC
    go_upto_region 2 with fail
    refine wp_region_lit ?_
    refine wpList_run (v := .pointer none) (wanted_none rfl) (gx_assign rfl rfl) ?_
    simp only [Act.put, List.setIfInBounds_toArray, List.set_cons_zero, List.set_cons_succ]
    refine wpList_run (v := .int .i64 130) (wanted_none rfl) (gx_assign rfl rfl) ?_
    simp only [Act.put, List.setIfInBounds_toArray, List.set_cons_zero, List.set_cons_succ]
    go_wp2_with fail
    go_ret2
    exact .inr ⟨HN.out, rfl, Turn.refl _ _⟩
  · have HN := Lib.hid (show ¬ okN m from fun h2 => by have := h2.1; have := h2.2; omega)
    have H0 := Lib.hid h
    clear h
    have H1 := Lib.hid (show ¬ m < 1 from by have := H0.out; omega)
    go_enter Tryz.func6, Tryz.ntmps6
    go_upto_region 0 with fail
    refine wp_region_lit ?_
    refine wpList_run (v := .pointer none) (wanted_none rfl) (gx_assign rfl rfl) ?_
    simp only [Act.put, List.setIfInBounds_toArray, List.set_cons_zero, List.set_cons_succ]
    refine wpList_run (v := .int .i64 0) (wanted_none rfl) (gx_assign rfl rfl) ?_
    simp only [Act.put, List.setIfInBounds_toArray, List.set_cons_zero, List.set_cons_succ]
    go_upto_region 1 with fail
    refine wp_region_lit ?_
    refine wpList_run (v := .int .i64 m) (wanted_none rfl) (exec_move rfl rfl) ?_
    simp only [Act.put, List.setIfInBounds_toArray, List.set_cons_zero, List.set_cons_succ]
    refine wpList_run (v := .bool false) (wanted_none rfl) (ix_lss rfl rfl rfl (decide_eq_false H1.out)) ?_
    simp only [Act.put, List.setIfInBounds_toArray, List.set_cons_zero, List.set_cons_succ]
    refine wpList_run (v := .bool false) (wanted_none rfl) (exec_move rfl rfl) ?_
    simp only [Act.put, List.setIfInBounds_toArray, List.set_cons_zero, List.set_cons_succ]
    refine wpList_run (v := .int .i64 m) rfl (exec_move rfl rfl) ?_
    simp only [Act.put, List.setIfInBounds_toArray, List.set_cons_zero, List.set_cons_succ]
    refine wpList_run (v := .bool true) rfl (ix_gtr rfl rfl rfl (decide_eq_true H0.out)) ?_
    simp only [Act.put, List.setIfInBounds_toArray, List.set_cons_zero, List.set_cons_succ]
    refine wpList_run (v := .bool true) (wanted_none rfl) (ix_pickF rfl rfl rfl) ?_
    simp only [Act.put, List.setIfInBounds_toArray, List.set_cons_zero, List.set_cons_succ]
    go_upto_region 2 with fail
    refine wp_region_lit ?_
    refine wpList_run (v := .pointer none) (wanted_none rfl) (gx_assign rfl rfl) ?_
    simp only [Act.put, List.setIfInBounds_toArray, List.set_cons_zero, List.set_cons_succ]
    refine wpList_run (v := .int .i64 130) (wanted_none rfl) (gx_assign rfl rfl) ?_
    simp only [Act.put, List.setIfInBounds_toArray, List.set_cons_zero, List.set_cons_succ]
    go_wp2_with fail
    go_ret2
    exact .inr ⟨HN.out, rfl, Turn.refl _ _⟩
  · obtain ⟨n, rfl⟩ := Int.eq_ofNat_of_zero_le (show 0 ≤ m by omega)
    have HN := Lib.hid (show 1 ≤ n ∧ n ≤ 6 from by omega)
    have y1 : 1 ≤ (n : Int) := by omega
    have y7 : (n : Int) ≤ 6 := by omega
    clear h
    go_enter Tryz.func6, Tryz.ntmps6
    go_upto_region 0 with fail
    refine wp_region_lit ?_
    refine wpList_run (v := .pointer none) (wanted_none rfl) (gx_assign rfl rfl) ?_
    simp only [Act.put, List.setIfInBounds_toArray, List.set_cons_zero, List.set_cons_succ]
    refine wpList_run (v := .int .i64 0) (wanted_none rfl) (gx_assign rfl rfl) ?_
    simp only [Act.put, List.setIfInBounds_toArray, List.set_cons_zero, List.set_cons_succ]
    go_upto_region 1 with fail
    refine wp_region_lit ?_
    refine wpList_run (v := .int .i64 (n : Int)) (wanted_none rfl) (exec_move rfl rfl) ?_
    simp only [Act.put, List.setIfInBounds_toArray, List.set_cons_zero, List.set_cons_succ]
    refine wpList_run (v := .bool false) (wanted_none rfl) (ix_lss rfl rfl rfl (decide_eq_false (by omega))) ?_
    simp only [Act.put, List.setIfInBounds_toArray, List.set_cons_zero, List.set_cons_succ]
    refine wpList_run (v := .bool false) (wanted_none rfl) (exec_move rfl rfl) ?_
    simp only [Act.put, List.setIfInBounds_toArray, List.set_cons_zero, List.set_cons_succ]
    refine wpList_run (v := .int .i64 (n : Int)) rfl (exec_move rfl rfl) ?_
    simp only [Act.put, List.setIfInBounds_toArray, List.set_cons_zero, List.set_cons_succ]
    refine wpList_run (v := .bool false) rfl (ix_gtr rfl rfl rfl (decide_eq_false (by omega))) ?_
    simp only [Act.put, List.setIfInBounds_toArray, List.set_cons_zero, List.set_cons_succ]
    refine wpList_run (v := .bool false) (wanted_none rfl) (ix_pickF rfl rfl rfl) ?_
    simp only [Act.put, List.setIfInBounds_toArray, List.set_cons_zero, List.set_cons_succ]
    go_upto_region 3 with fail
    refine wp_region_alw (fun W => True) (by kernel_rfl) ?_
    have hS0 : (fun W => True) w.drew := trivial
    have HD := Lib.hid ((Turn.refl nowhere w).drew)
    generalize w.drew = wd at *
    refine alw_take (i := 0) (v := .int .i64 (n : Int)) rfl (by kernel_rfl) (by kernel_rfl) (fun _ _ _ h => h) (.inl ⟨by rfl, fun W hW => exec_move rfl rfl⟩) hS0 ?_
    simp only [Act.put, List.setIfInBounds_toArray, List.set_cons_zero, List.set_cons_succ]
    refine alw_take (i := 2) (v := .int .i64 (n : Int)) rfl (by kernel_rfl) (by kernel_rfl) (fun _ _ _ h => h) (.inl ⟨by rfl, fun W hW => exec_move rfl rfl⟩) hS0 ?_
    simp only [Act.put, List.setIfInBounds_toArray, List.set_cons_zero, List.set_cons_succ]
    refine alw_pair (i := 1) (j := 3) (by kernel_rfl) rfl rfl rfl rfl ?_ ?_
    · as_aux_lemma =>
        obtain ⟨wa, hrun, ho, ht⟩ := orw_make elmL (one_bl false) n (by omega) wd
        rw [bR_none 0 n] at ho
        have HRUNs := Lib.hid hrun
        obtain ⟨s, hg⟩ : ∃ g, g = wd.heap.size := ⟨_, rfl⟩
        rw [← hg] at ho
        have HOs := Lib.hid ho
        have HTs := Lib.hid ht
        have HGs := Lib.hid hg
        clear hrun ho ht hg
        intro K1 HK1
        refine wp_run (v := .slice (some ⟨s, 0, none⟩) n n) (w' := wa) (gx_make rfl rfl rfl (by rw [HGs.out]; exact HRUNs.out)) ?_
        refine HK1.out _ _ ⟨trivial, ?_⟩
        clear HK1
        try simp only [Act.put, List.setIfInBounds_toArray, List.set_cons_zero, List.set_cons_succ]
        refine alw_step (i := 3) (by kernel_rfl) rfl rfl ?_
        obtain ⟨wb, hrun, ho, ht⟩ := orw_make elmL (one_bl false) n (by omega) wa
        rw [bR_none 1 n] at ho
        have HRUNb := Lib.hid hrun
        obtain ⟨b, hg⟩ : ∃ g, g = wa.heap.size := ⟨_, rfl⟩
        rw [← hg] at ho
        have HOb := Lib.hid ho
        have HTb := Lib.hid ht
        have HGb := Lib.hid hg
        clear hrun ho ht hg
        intro K1 HK1
        refine wp_run (v := .slice (some ⟨b, 0, none⟩) n n) (w' := wb) (gx_make rfl rfl rfl (by rw [HGb.out]; exact HRUNb.out)) ?_
        refine HK1.out _ _ ⟨trivial, ?_⟩
        clear HK1
        try simp only [Act.put, List.setIfInBounds_toArray, List.set_cons_zero, List.set_cons_succ]
        refine alw_take (i := 4) (v := .agg #[.slice (some ⟨s, 0, none⟩) n n, .slice (some ⟨b, 0, none⟩) n n]) rfl (by kernel_rfl) (by kernel_rfl) (fun _ _ _ h => h) (.inl ⟨by rfl, fun W hW => gx_build2 rfl rfl rfl (build_rb _ _ _ _ _ _ _)⟩) trivial ?_
        simp only [Act.put, List.setIfInBounds_toArray, List.set_cons_zero, List.set_cons_succ]
        have hb := Blk.new wb 39 #[.slice (some ⟨s, 0, none⟩) n n, .slice (some ⟨b, 0, none⟩) n n]
        have ht2 := (Turn.refl nowhere wb).alloc (.cells #[.slice (some ⟨s, 0, none⟩) n n, .slice (some ⟨b, 0, none⟩) n n] 39)
        refine alw_step (i := 5) (by kernel_rfl) rfl rfl ?_
        intro K1 HK1
        refine wp_run (v := .pointer (some ⟨wb.heap.size, 0, none⟩)) (w' := wb.alloc (.cells #[.slice (some ⟨s, 0, none⟩) n n, .slice (some ⟨b, 0, none⟩) n n] 39)) (gx_box rfl rfl (box_rb _ _ _ _ _ _ _)) ?_
        refine HK1.out _ _ ⟨trivial, ?_⟩
        clear HK1
        try simp only [Act.put, List.setIfInBounds_toArray, List.set_cons_zero, List.set_cons_succ]
        obtain ⟨y, hy⟩ : ∃ y, y = wb.heap.size := ⟨_, rfl⟩
        rw [← hy] at hb ⊢
        have HY := Lib.hid (show wb.heap.size ≤ y from by rw [hy]; exact Nat.le_refl _)
        clear hy
        generalize wb.alloc (.cells #[.slice (some ⟨s, 0, none⟩) n n, .slice (some ⟨b, 0, none⟩) n n] 39) = wc at *
        have HB := Lib.hid hb
        have HT2 := Lib.hid ht2
        clear hb ht2
        refine alw_take (i := 6) (v := .pointer (some ⟨y, 0, none⟩)) rfl (by kernel_rfl) (by kernel_rfl) (fun _ _ _ h => h) (.inl ⟨by rfl, fun W hW => gx_assign rfl rfl⟩) trivial ?_
        simp only [Act.put, List.setIfInBounds_toArray, List.set_cons_zero, List.set_cons_succ]
        refine alw_take (i := 7) (v := .int .i64 0) rfl (by kernel_rfl) (by kernel_rfl) (fun _ _ _ h => h) (.inl ⟨by rfl, fun W hW => gx_assign rfl rfl⟩) trivial ?_
        simp only [Act.put, List.setIfInBounds_toArray, List.set_cons_zero, List.set_cons_succ]
        refine alw_done rfl ?_
        refine NoPanic.normal ?_
        have HAB := Lib.hid (HTb.out.trans HT2.out fun _ _ e => e)
        have HZ := Lib.hid (HOs.out.still HAB.out)
        have HX := Lib.hid (HOb.out.still HT2.out)
        have hs := (HOs.out.lt (b := s) rfl)
        have hb := (HOb.out.lt (b := b) rfl)
        have e1 := HGs.out
        have e2 := HGb.out
        have HNE := Lib.hid (show s ≠ b from by omega)
        have hd := HD.out.size
        have ha := HTs.out.size
        have hy := HY.out
        have hbz := HTb.out.size
        have HLL := Lib.hid (show w.heap.size ≤ y ∧ w.heap.size ≤ s ∧ w.heap.size ≤ b from by omega)
        clear hs hb hd ha hy hbz e1 e2
        go_wp2_with fail
        go_ret2
        exact .inl ⟨n, y, s, b, rfl, rfl, ⟨⟨n, n, HB.out, HZ.out.less (Nat.zero_le _), HX.out.less (Nat.zero_le _)⟩, HNE.out, HN.out.1, HN.out.2⟩, HLL.out.1, HLL.out.2.1, HLL.out.2.2, (HD.out.trans HTs.out fun _ _ e => e).trans HAB.out fun _ _ e => e⟩
    · as_aux_lemma =>
        obtain ⟨wa, hrun, ho, ht⟩ := orw_make elmL (one_bl false) n (by omega) wd
        rw [bR_none 1 n] at ho
        have HRUNb := Lib.hid hrun
        obtain ⟨b, hg⟩ : ∃ g, g = wd.heap.size := ⟨_, rfl⟩
        rw [← hg] at ho
        have HOb := Lib.hid ho
        have HTb := Lib.hid ht
        have HGb := Lib.hid hg
        clear hrun ho ht hg
        intro K1 HK1
        refine wp_run (v := .slice (some ⟨b, 0, none⟩) n n) (w' := wa) (gx_make rfl rfl rfl (by rw [HGb.out]; exact HRUNb.out)) ?_
        refine HK1.out _ _ ⟨trivial, ?_⟩
        clear HK1
        try simp only [Act.put, List.setIfInBounds_toArray, List.set_cons_zero, List.set_cons_succ]
        refine alw_step (i := 1) (by kernel_rfl) rfl rfl ?_
        obtain ⟨wb, hrun, ho, ht⟩ := orw_make elmL (one_bl false) n (by omega) wa
        rw [bR_none 0 n] at ho
        have HRUNs := Lib.hid hrun
        obtain ⟨s, hg⟩ : ∃ g, g = wa.heap.size := ⟨_, rfl⟩
        rw [← hg] at ho
        have HOs := Lib.hid ho
        have HTs := Lib.hid ht
        have HGs := Lib.hid hg
        clear hrun ho ht hg
        intro K1 HK1
        refine wp_run (v := .slice (some ⟨s, 0, none⟩) n n) (w' := wb) (gx_make rfl rfl rfl (by rw [HGs.out]; exact HRUNs.out)) ?_
        refine HK1.out _ _ ⟨trivial, ?_⟩
        clear HK1
        try simp only [Act.put, List.setIfInBounds_toArray, List.set_cons_zero, List.set_cons_succ]
        refine alw_take (i := 4) (v := .agg #[.slice (some ⟨s, 0, none⟩) n n, .slice (some ⟨b, 0, none⟩) n n]) rfl (by kernel_rfl) (by kernel_rfl) (fun _ _ _ h => h) (.inl ⟨by rfl, fun W hW => gx_build2 rfl rfl rfl (build_rb _ _ _ _ _ _ _)⟩) trivial ?_
        simp only [Act.put, List.setIfInBounds_toArray, List.set_cons_zero, List.set_cons_succ]
        have hb := Blk.new wb 39 #[.slice (some ⟨s, 0, none⟩) n n, .slice (some ⟨b, 0, none⟩) n n]
        have ht2 := (Turn.refl nowhere wb).alloc (.cells #[.slice (some ⟨s, 0, none⟩) n n, .slice (some ⟨b, 0, none⟩) n n] 39)
        refine alw_step (i := 5) (by kernel_rfl) rfl rfl ?_
        intro K1 HK1
        refine wp_run (v := .pointer (some ⟨wb.heap.size, 0, none⟩)) (w' := wb.alloc (.cells #[.slice (some ⟨s, 0, none⟩) n n, .slice (some ⟨b, 0, none⟩) n n] 39)) (gx_box rfl rfl (box_rb _ _ _ _ _ _ _)) ?_
        refine HK1.out _ _ ⟨trivial, ?_⟩
        clear HK1
        try simp only [Act.put, List.setIfInBounds_toArray, List.set_cons_zero, List.set_cons_succ]
        obtain ⟨y, hy⟩ : ∃ y, y = wb.heap.size := ⟨_, rfl⟩
        rw [← hy] at hb ⊢
        have HY := Lib.hid (show wb.heap.size ≤ y from by rw [hy]; exact Nat.le_refl _)
        clear hy
        generalize wb.alloc (.cells #[.slice (some ⟨s, 0, none⟩) n n, .slice (some ⟨b, 0, none⟩) n n] 39) = wc at *
        have HB := Lib.hid hb
        have HT2 := Lib.hid ht2
        clear hb ht2
        refine alw_take (i := 6) (v := .pointer (some ⟨y, 0, none⟩)) rfl (by kernel_rfl) (by kernel_rfl) (fun _ _ _ h => h) (.inl ⟨by rfl, fun W hW => gx_assign rfl rfl⟩) trivial ?_
        simp only [Act.put, List.setIfInBounds_toArray, List.set_cons_zero, List.set_cons_succ]
        refine alw_take (i := 7) (v := .int .i64 0) rfl (by kernel_rfl) (by kernel_rfl) (fun _ _ _ h => h) (.inl ⟨by rfl, fun W hW => gx_assign rfl rfl⟩) trivial ?_
        simp only [Act.put, List.setIfInBounds_toArray, List.set_cons_zero, List.set_cons_succ]
        refine alw_done rfl ?_
        refine NoPanic.normal ?_
        have HAB := Lib.hid (HTs.out.trans HT2.out fun _ _ e => e)
        have HZ := Lib.hid (HOb.out.still HAB.out)
        have HX := Lib.hid (HOs.out.still HT2.out)
        have hb := (HOb.out.lt (b := b) rfl)
        have hs := (HOs.out.lt (b := s) rfl)
        have e1 := HGs.out
        have e2 := HGb.out
        have HNE := Lib.hid (show s ≠ b from by omega)
        have hd := HD.out.size
        have ha := HTb.out.size
        have hy := HY.out
        have hbz := HTs.out.size
        have HLL := Lib.hid (show w.heap.size ≤ y ∧ w.heap.size ≤ s ∧ w.heap.size ≤ b from by omega)
        clear hb hs hd ha hy hbz e1 e2
        go_wp2_with fail
        go_ret2
        exact .inl ⟨n, y, s, b, rfl, rfl, ⟨⟨n, n, HB.out, HX.out.less (Nat.zero_le _), HZ.out.less (Nat.zero_le _)⟩, HNE.out, HN.out.1, HN.out.2⟩, HLL.out.1, HLL.out.2.1, HLL.out.2.2, (HD.out.trans HTb.out fun _ _ e => e).trans HAB.out fun _ _ e => e⟩
end Go.Proofs.YtfnillibngijaaaGreatDoor
namespace Go.Proofs.YtfnillibngijaaaGreatDoor
open Go.RowKit
open Sh (Wd B8 H8)
set_option linter.unusedVariables false
set_option linter.unusedSimpArgs false
set_option maxRecDepth 20000
theorem reset_at {l : List Bool} {n j : Nat} (h : j < 12) : (resetL n l).getD j false = if j % 2 = 0 ∧ j < 2 * n then false else l.getD j false := by
  unfold resetL
  rw [List.getD_eq_getElem?_getD, List.getElem?_map, List.getElem?_range h]
  rfl
theorem bR_reset0 (l : List Bool) {n : Nat} (hn : n ≤ 6) : bR 0 n (resetL 6 l) = bR 0 n none12 := by
  unfold bR
  refine List.map_congr_left fun i hi => ?_
  have hi : i < n := List.mem_range.1 hi
  rw [reset_at (by omega), if_pos ⟨by omega, by omega⟩, none_at]
theorem bR_reset1 (l : List Bool) {n : Nat} (hn : n ≤ 6) : bR 1 n (resetL 6 l) = bR 1 n l := by
  unfold bR
  refine List.map_congr_left fun i hi => ?_
  have hi : i < n := List.mem_range.1 hi
  rw [reset_at (by omega), if_neg (by omega)]
theorem size_bls : (Tryz.prog.info? 37).map (·.size) = some 1 := by kernel_rfl
set_option maxRecDepth 20000 in
set_option maxHeartbeats 4000000 in
theorem rReset_walk {w : World} {y s b n : Nat} {l : List Bool} (h : RBd w y s b n l) : Calls Tryz.prog 13 #[.pointer (some ⟨y, 0, none⟩)] w fun e w' => (∃ v, e = .returned v) ∧ ∃ s', RBd w' y s' b n (resetL 6 l) ∧ w.heap.size ≤ s' ∧ Turn (only y) w w' := by
  have HLO := Lib.hid h.lo
  have HHI := Lib.hid h.hi
  obtain ⟨cs, cb, hb1, ho1, ho2⟩ := h.row
  have H := Lib.hid hb1
  have HB := Lib.hid ho2
  have HYB := Lib.hid (show b ≠ y from ho2.ne hb1 (by decide) b rfl)
  have HLB := Lib.hid (show b < w.heap.size from (ho2.lt (b := b) rfl).2)
  have HLY := Lib.hid (show y < w.heap.size from hb1.lt)
  obtain ⟨w1, hrun, ho, ht⟩ := orw_make elmL (one_bl false) n (by have := h.hi; omega) w
  rw [bR_none 0 n, ← bR_reset0 l h.hi] at ho
  have HRUN := Lib.hid hrun
  have HO := Lib.hid ho
  have HT1 := Lib.hid ht
  have HRB := Lib.hid (bR_reset1 l h.hi)
  have HYS := Lib.hid (show w.heap.size ≠ y from by have := HLY.out; omega)
  clear h hb1 ho1 ho2 hrun ho ht
  go_enter Tryz.func13, Tryz.ntmps13
  go_upto_region 0 with fail
  refine wp_region_lit ?_
  refine wpList_run (v := .pointer (some ⟨y, 0, none⟩)) (wanted_none rfl) (exec_move rfl rfl) ?_
  simp only [Act.put, List.setIfInBounds_toArray, List.set_cons_zero, List.set_cons_succ]
  refine wpList_run (v := .pointer (some ⟨y, 0, none⟩)) (wanted_none rfl) (exec_move rfl rfl) ?_
  simp only [Act.put, List.setIfInBounds_toArray, List.set_cons_zero, List.set_cons_succ]
  refine wpList_run (v := .pointer (some ⟨y, 0, none⟩)) (wanted_none rfl) (exec_nil rfl rfl) ?_
  simp only [Act.put, List.setIfInBounds_toArray, List.set_cons_zero, List.set_cons_succ]
  refine wpList_run (v := .pointer (some ⟨y, 0, none⟩)) (wanted_none rfl) (exec_field (off := 0) (d := 0) rfl rfl (by kernel_rfl)) ?_
  simp only [Act.put, List.setIfInBounds_toArray, List.set_cons_zero, List.set_cons_succ]
  refine wpList_run (v := .slice (some ⟨s, 0, none⟩) n cs) (wanted_none rfl) (exec_load1 rfl rfl (by kernel_rfl) (H.out.cell 0)) ?_
  simp only [Act.put, List.setIfInBounds_toArray, List.set_cons_zero, List.set_cons_succ]
  refine wpList_run (v := .int .i64 (n : Int)) (wanted_none rfl) (gx_len rfl rfl Tryz.underlying37) ?_
  simp only [Act.put, List.setIfInBounds_toArray, List.set_cons_zero, List.set_cons_succ]
  refine wpList_run (v := .slice (some ⟨w.heap.size, 0, none⟩) n n) (w' := w1) (wanted_none rfl) (gx_make rfl rfl rfl HRUN.out) ?_
  simp only [Act.put, List.setIfInBounds_toArray, List.set_cons_zero, List.set_cons_succ]
  have H1 := Lib.hid (H.out.turn HT1.out fun e => e)
  obtain ⟨s1, hs1⟩ : ∃ x, x = w.heap.size := ⟨_, rfl⟩
  have HS1 := Lib.hid hs1
  rw [← hs1] at HO HYS ⊢
  clear hs1
  refine wpList_run (v := .pointer (some ⟨y, 0, none⟩)) (wanted_none rfl) (exec_nil rfl rfl) ?_
  simp only [Act.put, List.setIfInBounds_toArray, List.set_cons_zero, List.set_cons_succ]
  refine wpList_run (v := .pointer (some ⟨y, 0, none⟩)) (wanted_none rfl) (exec_field (off := 0) (d := 0) rfl rfl (by kernel_rfl)) ?_
  simp only [Act.put, List.setIfInBounds_toArray, List.set_cons_zero, List.set_cons_succ]
  refine wpList_put (wanted_none rfl) 37 (.tmp 10) (.tmp 8) rfl (.slice (some ⟨s1, 0, none⟩) n n) (#[.slice (some ⟨s1, 0, none⟩) n n, .slice (some ⟨b, 0, none⟩) n cb]) H1.out rfl rfl (Nat.zero_lt_succ _) rfl rfl size_bls rfl ?_
  intro w4 hb4 ht4
  have HB4 := Lib.hid hb4
  have HT4 := Lib.hid ht4
  clear hb4 ht4
  try simp only [Act.put, List.setIfInBounds_toArray, List.set_cons_zero, List.set_cons_succ]
  go_wp2_with fail
  go_end0
  refine ⟨⟨_, rfl⟩, s1, ⟨⟨n, cb, HB4.out, ?_, ?_⟩, ?_, HLO.out, HHI.out⟩, by have := HS1.out; omega, ((Turn.refl (only y) w).trans HT1.out fun _ _ e => False.elim e).trans HT4.out fun _ _ e => e⟩
  · exact (HO.out.turn HT4.out fun g e => own_blk e ▸ HYS.out).less (Nat.zero_le _)
  · rw [HRB.out]
    exact (HB.out.still HT1.out).turn HT4.out fun g e => own_blk e ▸ HYB.out
  · have := HLB.out
    have := HS1.out
    omega
end Go.Proofs.YtfnillibngijaaaGreatDoor
