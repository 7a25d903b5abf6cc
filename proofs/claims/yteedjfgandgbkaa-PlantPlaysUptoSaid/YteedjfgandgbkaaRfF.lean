/-
  The reference plant's flushed, walked. No conditions.
-/
import Derived.Test.YteedjfgandgbkaaRfE
namespace Go.Proofs.Yteedjfgandgbkaa
open Go.RowKit Go.Maps
set_option linter.unusedVariables false
set_option linter.unusedSimpArgs false
theorem make_sec (w : World) : (Instr.makeSlice 36 (.int .i64 64) (.int .i64 64)).run Try.prog w = .ok (.slice (some ⟨w.heap.size, 0, none⟩) 64 64) (w.alloc (.cells (bcs zeroSec.1).toArray 5)) := by
  obtain ⟨j0, hj0, hjz, hj1, hj2⟩ := info_parts byteInfo
  have h := run_makeSlice (P := Try.prog) w 36 5 j0 _ Try.underlying36 hj0 hjz .i64 .i64 64 64 (by omega) (by omega) (by rw [hj1]; decide) (by rw [hj2]; decide) (by decide)
  rw [h, hj1]
  have e : madeCells (Value.int .u8 0).cells ((64 : Int).toNat * 1) = (bcs zeroSec.1).toArray := madeBytes 64
  rw [e]
  rfl
set_option maxRecDepth 20000 in
set_option maxHeartbeats 1000000 in
theorem flushed_walk {w : World} {q i k : Nat} {mv hv wv : Value} {off burns : Bool} {left done : Int} {ds : List (Nat × (Int → Option Sec))} {d : Nat × (Int → Option Sec)} (hb : Blk w q 49 (refCells mv hv wv off burns left done)) (hh : HasR w hv ds) (hd : ds[i]? = some d) (hk : k < d.1) :
    Calls Try.prog 37 #[.pointer (some ⟨q, 0, none⟩), .int .i64 (i : Int), .int .i64 (k : Int)] w fun e w' => ∃ g c, e = .returned (.slice (some ⟨g, 0, none⟩) 64 c) ∧ Own w' 0 5 (.slice (some ⟨g, 0, none⟩) 64 c) ((d.2 (k : Int)).getD zeroSec).1 ∧ w.heap.size ≤ g ∧ Turn nowhere w w' := by
  obtain ⟨g, c, r, rc, u, rfl, hc1, hc2, hs⟩ := has_at hh hd hk
  have c1 : w.cell? ⟨q, 1, none⟩ = some (.slice (some ⟨g, 0, none⟩) ds.length c) := hb.cell 1
  have hi := (List.getElem?_eq_some_iff.1 hd).1
  obtain ⟨n, hn⟩ : ∃ n, n = ds.length := ⟨_, rfl⟩
  rw [← hn] at c1 hi
  obtain ⟨m, hm⟩ : ∃ m, m = d.1 := ⟨_, rfl⟩
  rw [← hm] at hk hc1
  have HI := Lib.hid hi
  have HK := Lib.hid hk
  clear hi hk hn hm hb hh hd
  rcases hs with ⟨hf, rfl⟩ | ⟨sc, b, off, cc, cu, hf, rfl, hcc, hbs, hcu⟩
  · rw [hf]
    clear hf
    go_enter Try.func37, Try.ntmps37
    go_upto_region 1 with fail
    refine wp_region_lit ?_
    refine wpList_run (v := .pointer (some ⟨q, 0, none⟩)) rfl (exec_move rfl rfl) ?_
    simp only [Act.put, List.setIfInBounds_toArray, List.set_cons_zero, List.set_cons_succ]
    refine wpList_run (v := .pointer (some ⟨q, 0, none⟩)) rfl (exec_nil rfl rfl) ?_
    simp only [Act.put, List.setIfInBounds_toArray, List.set_cons_zero, List.set_cons_succ]
    refine wpList_run (v := .pointer (some ⟨q, 1, none⟩)) rfl (exec_field (off := 0) (d := 1) rfl rfl (by kernel_rfl)) ?_
    simp only [Act.put, List.setIfInBounds_toArray, List.set_cons_zero, List.set_cons_succ]
    refine wpList_run (v := .slice (some ⟨g, 0, none⟩) n c) rfl (exec_load1 rfl rfl (by kernel_rfl) c1) ?_
    simp only [Act.put, List.setIfInBounds_toArray, List.set_cons_zero, List.set_cons_succ]
    refine wpList_run (v := .int .i64 (i : Int)) rfl (exec_move rfl rfl) ?_
    simp only [Act.put, List.setIfInBounds_toArray, List.set_cons_zero, List.set_cons_succ]
    refine wpList_run (v := .pointer (some ⟨g, i, none⟩)) rfl (gx_iaddr (i := i) (sz := 1) rfl rfl rfl Try.underlying46 (by kernel_rfl) HI.out (by omega)) ?_
    simp only [Act.put, List.setIfInBounds_toArray, List.set_cons_zero, List.set_cons_succ]
    refine wpList_run (v := .slice (some ⟨r, 0, none⟩) m rc) rfl (exec_load1 rfl rfl (by kernel_rfl) hc1) ?_
    simp only [Act.put, List.setIfInBounds_toArray, List.set_cons_zero, List.set_cons_succ]
    refine wpList_run (v := .int .i64 (k : Int)) rfl (exec_move rfl rfl) ?_
    simp only [Act.put, List.setIfInBounds_toArray, List.set_cons_zero, List.set_cons_succ]
    refine wpList_run (v := .pointer (some ⟨r, k, none⟩)) rfl (gx_iaddr (i := k) (sz := 1) rfl rfl rfl Try.underlying60 (by kernel_rfl) HK.out (by omega)) ?_
    simp only [Act.put, List.setIfInBounds_toArray, List.set_cons_zero, List.set_cons_succ]
    refine wpList_run (v := .slice none 0 0) rfl (exec_load1 rfl rfl (by kernel_rfl) hc2) ?_
    simp only [Act.put, List.setIfInBounds_toArray, List.set_cons_zero, List.set_cons_succ]
    refine wpList_run (v := .int .i64 0) rfl (gx_len (n := 0) rfl rfl Try.underlying36) ?_
    simp only [Act.put, List.setIfInBounds_toArray, List.set_cons_zero, List.set_cons_succ]
    refine wpList_run (v := .bool true) rfl (ix_eql rfl rfl rfl (by decide)) ?_
    simp only [Act.put, List.setIfInBounds_toArray, List.set_cons_zero, List.set_cons_succ]

    go_upto_region 2 with fail
    refine wp_region_lit ?_
    refine wpList_run (v := .slice (some ⟨w.heap.size, 0, none⟩) 64 64) (w' := w.alloc (.cells (bcs zeroSec.1).toArray 5)) rfl (gx_make rfl rfl rfl (make_sec _)) ?_
    simp only [Act.put, List.setIfInBounds_toArray, List.set_cons_zero, List.set_cons_succ]

    clear c1 hc1 hc2
    have ho : Own (w.alloc (.cells (bcs zeroSec.1).toArray 5)) 0 5 (.slice (some ⟨w.heap.size, 0, none⟩) 64 64) zeroSec.1 := World.ownsRow_lit w _ 64 (Nat.zero_le _) (by unfold maxLen; omega) (by rw [List.size_toArray, bcs_length]; rfl)
    have ht := (Turn.refl nowhere w).alloc (.cells (bcs zeroSec.1).toArray 5)
    obtain ⟨g1, hg1⟩ : ∃ g1, g1 = w.heap.size := ⟨_, rfl⟩
    rw [← hg1] at ho ⊢
    have HG1 := Lib.hid hg1
    have HO := Lib.hid ho
    have HT := Lib.hid ht
    clear ho ht hg1
    generalize World.alloc w (.cells (bcs zeroSec.1).toArray 5) = w1 at *
    go_wp2_with fail
    go_ret
    exact ⟨g1, 64, rfl, HO.out, by have := HG1.out; omega, HT.out⟩
  · rw [hf]
    obtain ⟨A1, c9, w1, hrun, hown, ht, hnew⟩ := copy_src (ty := 36) (c := cc) hbs (fun e => by cases e) (by omega)
    obtain ⟨g1, cu1, rfl, _⟩ : ∃ g1 cu1, A1 = some ⟨g1, 0, none⟩ ∧ w1.heap[g1]? = some (.cells cu1 5 (0, 0)) := by
      rcases hown.2 with ⟨e, h0⟩ | ⟨g, cap, cur, e, _, hg, _⟩
      · injection e with _ e2 _
        cases e2
      · injection e with e1 e2 e3
        exact ⟨g, cur, e1, hg⟩
    have HRUN := Lib.hid hrun
    have HO := Lib.hid hown
    have HT := Lib.hid ht
    have HG1 := Lib.hid (hnew g1 rfl)
    clear hf hrun hown ht hnew hbs hcu
    go_enter Try.func37, Try.ntmps37
    go_upto_region 1 with fail
    refine wp_region_lit ?_
    refine wpList_run (v := .pointer (some ⟨q, 0, none⟩)) rfl (exec_move rfl rfl) ?_
    simp only [Act.put, List.setIfInBounds_toArray, List.set_cons_zero, List.set_cons_succ]
    refine wpList_run (v := .pointer (some ⟨q, 0, none⟩)) rfl (exec_nil rfl rfl) ?_
    simp only [Act.put, List.setIfInBounds_toArray, List.set_cons_zero, List.set_cons_succ]
    refine wpList_run (v := .pointer (some ⟨q, 1, none⟩)) rfl (exec_field (off := 0) (d := 1) rfl rfl (by kernel_rfl)) ?_
    simp only [Act.put, List.setIfInBounds_toArray, List.set_cons_zero, List.set_cons_succ]
    refine wpList_run (v := .slice (some ⟨g, 0, none⟩) n c) rfl (exec_load1 rfl rfl (by kernel_rfl) c1) ?_
    simp only [Act.put, List.setIfInBounds_toArray, List.set_cons_zero, List.set_cons_succ]
    refine wpList_run (v := .int .i64 (i : Int)) rfl (exec_move rfl rfl) ?_
    simp only [Act.put, List.setIfInBounds_toArray, List.set_cons_zero, List.set_cons_succ]
    refine wpList_run (v := .pointer (some ⟨g, i, none⟩)) rfl (gx_iaddr (i := i) (sz := 1) rfl rfl rfl Try.underlying46 (by kernel_rfl) HI.out (by omega)) ?_
    simp only [Act.put, List.setIfInBounds_toArray, List.set_cons_zero, List.set_cons_succ]
    refine wpList_run (v := .slice (some ⟨r, 0, none⟩) m rc) rfl (exec_load1 rfl rfl (by kernel_rfl) hc1) ?_
    simp only [Act.put, List.setIfInBounds_toArray, List.set_cons_zero, List.set_cons_succ]
    refine wpList_run (v := .int .i64 (k : Int)) rfl (exec_move rfl rfl) ?_
    simp only [Act.put, List.setIfInBounds_toArray, List.set_cons_zero, List.set_cons_succ]
    refine wpList_run (v := .pointer (some ⟨r, k, none⟩)) rfl (gx_iaddr (i := k) (sz := 1) rfl rfl rfl Try.underlying60 (by kernel_rfl) HK.out (by omega)) ?_
    simp only [Act.put, List.setIfInBounds_toArray, List.set_cons_zero, List.set_cons_succ]
    refine wpList_run (v := .slice (some ⟨b, off, none⟩) 64 cc) rfl (exec_load1 rfl rfl (by kernel_rfl) hc2) ?_
    simp only [Act.put, List.setIfInBounds_toArray, List.set_cons_zero, List.set_cons_succ]
    refine wpList_run (v := .int .i64 64) rfl (gx_len (n := 64) rfl rfl Try.underlying36) ?_
    simp only [Act.put, List.setIfInBounds_toArray, List.set_cons_zero, List.set_cons_succ]
    refine wpList_run (v := .bool false) rfl (ix_eql rfl rfl rfl (by decide)) ?_
    simp only [Act.put, List.setIfInBounds_toArray, List.set_cons_zero, List.set_cons_succ]

    go_upto_region 3 with fail
    refine wp_region_lit ?_
    refine wpList_run (v := .slice (some ⟨w.heap.size, 0, none⟩) 0 0) (w' := w.alloc (.cells #[] 5)) rfl (exec_buildNone rfl (build_noneB _)) ?_
    simp only [Act.put, List.setIfInBounds_toArray, List.set_cons_zero, List.set_cons_succ]
    refine wpList_run (v := .pointer (some ⟨q, 0, none⟩)) rfl (exec_move rfl rfl) ?_
    simp only [Act.put, List.setIfInBounds_toArray, List.set_cons_zero, List.set_cons_succ]
    refine wpList_run (v := .pointer (some ⟨q, 0, none⟩)) rfl (exec_nil rfl rfl) ?_
    simp only [Act.put, List.setIfInBounds_toArray, List.set_cons_zero, List.set_cons_succ]
    refine wpList_run (v := .pointer (some ⟨q, 1, none⟩)) rfl (exec_field (off := 0) (d := 1) rfl rfl (by kernel_rfl)) ?_
    simp only [Act.put, List.setIfInBounds_toArray, List.set_cons_zero, List.set_cons_succ]
    refine wpList_run (v := .slice (some ⟨g, 0, none⟩) n c) rfl (exec_load1 rfl rfl (by kernel_rfl) (by rw [World.cell?_of_block (Below.heap_alloc w _ _ (World.block_lt_of_cell? _ _ c1))]; exact c1)) ?_
    simp only [Act.put, List.setIfInBounds_toArray, List.set_cons_zero, List.set_cons_succ]
    refine wpList_run (v := .int .i64 (i : Int)) rfl (exec_move rfl rfl) ?_
    simp only [Act.put, List.setIfInBounds_toArray, List.set_cons_zero, List.set_cons_succ]
    refine wpList_run (v := .pointer (some ⟨g, i, none⟩)) rfl (gx_iaddr (i := i) (sz := 1) rfl rfl rfl Try.underlying46 (by kernel_rfl) HI.out (by omega)) ?_
    simp only [Act.put, List.setIfInBounds_toArray, List.set_cons_zero, List.set_cons_succ]
    refine wpList_run (v := .slice (some ⟨r, 0, none⟩) m rc) rfl (exec_load1 rfl rfl (by kernel_rfl) (by rw [World.cell?_of_block (Below.heap_alloc w _ _ (World.block_lt_of_cell? _ _ hc1))]; exact hc1)) ?_
    simp only [Act.put, List.setIfInBounds_toArray, List.set_cons_zero, List.set_cons_succ]
    refine wpList_run (v := .int .i64 (k : Int)) rfl (exec_move rfl rfl) ?_
    simp only [Act.put, List.setIfInBounds_toArray, List.set_cons_zero, List.set_cons_succ]
    refine wpList_run (v := .pointer (some ⟨r, k, none⟩)) rfl (gx_iaddr (i := k) (sz := 1) rfl rfl rfl Try.underlying60 (by kernel_rfl) HK.out (by omega)) ?_
    simp only [Act.put, List.setIfInBounds_toArray, List.set_cons_zero, List.set_cons_succ]
    refine wpList_run (v := .slice (some ⟨b, off, none⟩) 64 cc) rfl (exec_load1 rfl rfl (by kernel_rfl) (by rw [World.cell?_of_block (Below.heap_alloc w _ _ (World.block_lt_of_cell? _ _ hc2))]; exact hc2)) ?_
    simp only [Act.put, List.setIfInBounds_toArray, List.set_cons_zero, List.set_cons_succ]
    refine wpList_run (v := .slice (some ⟨g1, 0, none⟩) 64 c9) (w' := w1) rfl (exec_append rfl rfl rfl HRUN.out) ?_
    simp only [Act.put, List.setIfInBounds_toArray, List.set_cons_zero, List.set_cons_succ]

    clear c1 hc1 hc2 HRUN
    go_wp2_with fail
    go_ret
    exact ⟨g1, c9, rfl, HO.out, HG1.out, HT.out⟩
end Go.Proofs.Yteedjfgandgbkaa
