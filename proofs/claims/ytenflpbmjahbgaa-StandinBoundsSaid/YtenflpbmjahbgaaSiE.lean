/-
  the reference's desk: the walks. No conditions.
-/
import Derived.Test.YtenflpbmjahbgaaSiD
import Derived.Shelf.SlMaps.Clone
import Derived.WalkSpells
import Derived.Lib.SliceRun
namespace Go.Proofs.Ytenflpbmjahbgaa
open Go.RowKit Go.Maps
open Si (Card Lims)
set_option linter.unusedVariables false
set_option linter.unusedSimpArgs false
set_option maxRecDepth 20000
theorem elmH : Elm Try.prog 50 60 3 32 (.agg #[.int .i64 0, .int .i64 0, .string ByteArray.empty]) := ⟨Try.underlying50, by kernel_rfl, rfl, by decide, by decide⟩
theorem size_had : (Try.prog.info? 60).map (·.size) = some 3 := by kernel_rfl
theorem size_hads : (Try.prog.info? 50).map (·.size) = some 1 := by kernel_rfl
theorem gx_build3 {P : Program} {a : Act} {o : Oper} {t : TypeId} {x y z : Operand} {u v q r : Value} {W : World} (ho : o.op = .build t #[(0, x), (1, y), (2, z)]) (hx : a.eval x = u) (hy : a.eval y = v) (hz : a.eval z = q) (h : (Instr.build t #[(0, u), (1, v), (2, q)]).run P W = .ok r W) : (execOp a.eval o).run P W = .ok (.value r) W := by
  unfold execOp
  simp [ho, hx, hy, hz, h, Result.andThen]
theorem build_had (x y : Int) (p : List UInt8) (W : World) : (Instr.build 60 #[(0, .int .i64 x), (1, .int .i64 y), (2, strV p)]).run Try.prog W = .ok (.agg (hadC (x, y, p)).toArray) W := by kernel_rfl
theorem hadC_one (x : Si.Hd) : ∀ u ∈ hadC x, u.oneCell' = true := fun u hu => by
  simp only [hadC, List.mem_cons, List.not_mem_nil, or_false] at hu
  rcases hu with rfl | rfl | rfl <;> rfl
theorem buildRd (A B : Option Addr) (n c m d : Nat) (W : World) : (Instr.build 52 #[(0, .slice A n c), (1, .slice B m d)]).run Try.prog W = .ok (.agg #[.slice A n c, .slice B m d]) W := by kernel_rfl
theorem buildRd1 (A : Option Addr) (n c : Nat) (W : World) : (Instr.build 52 #[(0, .slice A n c)]).run Try.prog W = .ok (.agg #[.slice A n c, .slice none 0 0]) W := by kernel_rfl
theorem boxRd (A B : Option Addr) (n c m d : Nat) (w : World) : (Instr.box 52 (.agg #[.slice A n c, .slice B m d])).run Try.prog w = .ok (.pointer (some ⟨w.heap.size, 0, none⟩)) (w.alloc (.cells #[.slice A n c, .slice B m d] 52)) := by kernel_rfl
def MadeR (w : World) (l : Lims) (n : Nat) (h : Card → Int) (p : Value) (w' : World) : Prop := ∃ y, p = .pointer (some ⟨y, 0, none⟩) ∧ RDesk w' y l n h ∧ w.heap.size ≤ y ∧ Turn nowhere w w'
def NewRQ (w : World) (l : Lims) (e : Ending) (w' : World) : Prop :=
  (Si.newE l ≠ 0 ∧ e = .returned (.tuple #[.pointer none, .int .i64 (Si.newE l)]) ∧ Turn nowhere w w') ∨ (Si.newE l = 0 ∧ ∃ p, e = .returned (.tuple #[p, .int .i64 0]) ∧ MadeR w l 0 (fun _ => 0) p w')
theorem had_rng {w : World} {B : Option Addr} {m d : Nat} {L : List Si.Hd} (h : Orw w 0 60 3 (.slice B m d) (L.map hadC)) {i : Nat} {x : Si.Hd} (hx : L[i]? = some x) : ∃ g, B = some ⟨g, 0, none⟩ ∧ w.rangeAt g (0 + i * 3) (hadC x) := by
  have hi := (List.getElem?_eq_some_iff.1 hx).1
  obtain ⟨g, c', e, _⟩ := h.some_ (by rw [List.length_map]; omega)
  injection e with e1 e2 e3
  subst e1
  exact ⟨g, rfl, h.el0 (by rw [List.getElem?_map, hx]; rfl)⟩
theorem told_or (L : List Si.Hd) (c : Card) (i : Nat) (x : Si.Hd) (hx : L[i]? = some x) : Si.others (L.take (i + 1)) c = if x.1 = c.1 ∧ x.2.2 = c.2 then Si.others (L.take i) c else Si.others (L.take i) c ++ [x] := by
  unfold Si.others
  rw [List.take_add_one, hx, List.filter_append]
  by_cases h : x.1 = c.1 ∧ x.2.2 = c.2
  · rw [if_pos h]
    simp [h.1, h.2]
  · rw [if_neg h]
    by_cases h1 : x.1 = c.1
    · have h2 : ¬ x.2.2 = c.2 := fun e => h ⟨h1, e⟩
      simp [h1, h2]
    · simp [h1]
set_option maxRecDepth 20000 in
set_option maxHeartbeats 4000000 in
theorem rNew_walk {w : World} {A : Option Addr} {n c : Nat} {l : Lims} (hr : Rws w 2 A n (l.map limC)) (hcc : A = none → c = 0) (hn : n ≤ 140737488355328) :
    Calls Try.prog 8 #[.slice A n c] w (NewRQ w l) := by
  have HR := Lib.hid hr
  have HLN := Lib.hid (lim_len hr)
  have yn : (n : Int) ≤ 140737488355328 := by omega
  clear hr hcc hn
  go_enter Try.func8, Try.ntmps8
  go_upto_region 0 with fail
  refine wp_region_lit ?_
  refine wpList_run (v := .pointer none) (wanted_none rfl) (gx_assign rfl rfl) ?_
  simp only [Act.put, List.setIfInBounds_toArray, List.set_cons_zero, List.set_cons_succ]
  refine wpList_run (v := .int .i64 0) (wanted_none rfl) (gx_assign rfl rfl) ?_
  simp only [Act.put, List.setIfInBounds_toArray, List.set_cons_zero, List.set_cons_succ]
  by_cases h1 : n < 1
  · have HE := Lib.hid (show Si.newE l = 130 from Si.newE_len (.inl (by rw [HLN.out]; exact h1)))
    have y1 : (n : Int) < 1 := by omega
    clear h1
    go_upto_region 1 with fail
    first
    | (rename_i K9 hK9; have HKC := Lib.hid hK9; clear hK9)
    | (rename_i K9 hK9 K8; have HKC := Lib.hid hK9; clear hK9)
    refine wp_region_lit ?_
    refine wpList_run (v := .slice A n c) (wanted_none rfl) (exec_move rfl rfl) ?_
    simp only [Act.put, List.setIfInBounds_toArray, List.set_cons_zero, List.set_cons_succ]
    refine wpList_run (v := .int .i64 (n : Int)) (wanted_none rfl) (gx_len rfl rfl Try.underlying22) ?_
    simp only [Act.put, List.setIfInBounds_toArray, List.set_cons_zero, List.set_cons_succ]
    refine wpList_run (v := .bool true) (wanted_none rfl) (ix_lss rfl rfl rfl (decide_eq_true y1)) ?_
    simp only [Act.put, List.setIfInBounds_toArray, List.set_cons_zero, List.set_cons_succ]
    refine wpList_run (v := .bool true) (wanted_none rfl) (exec_move rfl rfl) ?_
    simp only [Act.put, List.setIfInBounds_toArray, List.set_cons_zero, List.set_cons_succ]
    go_wp2_with fail
    refine HKC.out _ _ ?_
    clear HKC
    go_upto_region 2 with fail
    refine wp_region_lit ?_
    refine wpList_run (v := .pointer none) (wanted_none rfl) (gx_assign rfl rfl) ?_
    simp only [Act.put, List.setIfInBounds_toArray, List.set_cons_zero, List.set_cons_succ]
    refine wpList_run (v := .int .i64 130) (wanted_none rfl) (gx_assign rfl rfl) ?_
    simp only [Act.put, List.setIfInBounds_toArray, List.set_cons_zero, List.set_cons_succ]
    go_wp2_with fail
    go_ret2
    exact .inl ⟨by rw [HE.out]; decide, by rw [HE.out]; rfl, Turn.refl _ _⟩
  · by_cases h6 : 6 < n
    · have HE := Lib.hid (show Si.newE l = 130 from Si.newE_len (.inr (by rw [HLN.out]; exact h6)))
      have y1 : 1 ≤ (n : Int) := by omega
      have y6 : 6 < (n : Int) := by omega
      clear h1 h6
      go_upto_region 1 with fail
      refine wp_region_lit ?_
      refine wpList_run (v := .slice A n c) (wanted_none rfl) (exec_move rfl rfl) ?_
      simp only [Act.put, List.setIfInBounds_toArray, List.set_cons_zero, List.set_cons_succ]
      refine wpList_run (v := .int .i64 (n : Int)) (wanted_none rfl) (gx_len rfl rfl Try.underlying22) ?_
      simp only [Act.put, List.setIfInBounds_toArray, List.set_cons_zero, List.set_cons_succ]
      refine wpList_run (v := .bool false) (wanted_none rfl) (ix_lss rfl rfl rfl (decide_eq_false (by omega))) ?_
      simp only [Act.put, List.setIfInBounds_toArray, List.set_cons_zero, List.set_cons_succ]
      refine wpList_run (v := .bool false) (wanted_none rfl) (exec_move rfl rfl) ?_
      simp only [Act.put, List.setIfInBounds_toArray, List.set_cons_zero, List.set_cons_succ]
      refine wpList_run (v := .slice A n c) rfl (exec_move rfl rfl) ?_
      simp only [Act.put, List.setIfInBounds_toArray, List.set_cons_zero, List.set_cons_succ]
      refine wpList_run (v := .int .i64 (n : Int)) rfl (gx_len rfl rfl Try.underlying22) ?_
      simp only [Act.put, List.setIfInBounds_toArray, List.set_cons_zero, List.set_cons_succ]
      refine wpList_run (v := .bool true) rfl (ix_gtr rfl rfl rfl (decide_eq_true y6)) ?_
      simp only [Act.put, List.setIfInBounds_toArray, List.set_cons_zero, List.set_cons_succ]
      refine wpList_run (v := .bool true) (wanted_none rfl) (ix_pickF rfl rfl rfl) ?_
      simp only [Act.put, List.setIfInBounds_toArray, List.set_cons_zero, List.set_cons_succ]
      go_upto_region 2 with fail
      refine wp_region_lit ?_
      refine wpList_run (v := .pointer none) (wanted_none rfl) (gx_assign rfl rfl) ?_
      simp only [Act.put, List.setIfInBounds_toArray, List.set_cons_zero, List.set_cons_succ]
      refine wpList_run (v := .int .i64 130) (wanted_none rfl) (gx_assign rfl rfl) ?_
      simp only [Act.put, List.setIfInBounds_toArray, List.set_cons_zero, List.set_cons_succ]
      go_wp2_with fail
      go_ret2
      exact .inl ⟨by rw [HE.out]; decide, by rw [HE.out]; rfl, Turn.refl _ _⟩
    · have HLL := Lib.hid (show 1 ≤ l.length ∧ l.length ≤ 6 from by rw [HLN.out]; omega)
      have y1 : 1 ≤ (n : Int) := by omega
      have y6 : (n : Int) ≤ 6 := by omega
      have HN6 := Lib.hid (show n ≤ 6 from by omega)
      have HN1 := Lib.hid (show 1 ≤ n from by omega)
      clear h1 h6
      go_upto_region 1 with fail
      refine wp_region_lit ?_
      refine wpList_run (v := .slice A n c) (wanted_none rfl) (exec_move rfl rfl) ?_
      simp only [Act.put, List.setIfInBounds_toArray, List.set_cons_zero, List.set_cons_succ]
      refine wpList_run (v := .int .i64 (n : Int)) (wanted_none rfl) (gx_len rfl rfl Try.underlying22) ?_
      simp only [Act.put, List.setIfInBounds_toArray, List.set_cons_zero, List.set_cons_succ]
      refine wpList_run (v := .bool false) (wanted_none rfl) (ix_lss rfl rfl rfl (decide_eq_false (by omega))) ?_
      simp only [Act.put, List.setIfInBounds_toArray, List.set_cons_zero, List.set_cons_succ]
      refine wpList_run (v := .bool false) (wanted_none rfl) (exec_move rfl rfl) ?_
      simp only [Act.put, List.setIfInBounds_toArray, List.set_cons_zero, List.set_cons_succ]
      refine wpList_run (v := .slice A n c) rfl (exec_move rfl rfl) ?_
      simp only [Act.put, List.setIfInBounds_toArray, List.set_cons_zero, List.set_cons_succ]
      refine wpList_run (v := .int .i64 (n : Int)) rfl (gx_len rfl rfl Try.underlying22) ?_
      simp only [Act.put, List.setIfInBounds_toArray, List.set_cons_zero, List.set_cons_succ]
      refine wpList_run (v := .bool false) rfl (ix_gtr rfl rfl rfl (decide_eq_false (by omega))) ?_
      simp only [Act.put, List.setIfInBounds_toArray, List.set_cons_zero, List.set_cons_succ]
      refine wpList_run (v := .bool false) (wanted_none rfl) (ix_pickF rfl rfl rfl) ?_
      simp only [Act.put, List.setIfInBounds_toArray, List.set_cons_zero, List.set_cons_succ]
      go_upto_region 3 with fail
      refine wp_region_lit ?_
      refine wpList_run (v := .int .i64 0) (wanted_none rfl) (gx_assign rfl rfl) ?_
      simp only [Act.put, List.setIfInBounds_toArray, List.set_cons_zero, List.set_cons_succ]
      go_wp2_with fail
      go_loopg [2, 3, 4] n (fun gk rv ev iv wr => ∃ i : Nat, iv = .int .i64 (i : Int) ∧ i + gk = n ∧ Si.okT l i ∧ wr = w)
      case atStart => exact ⟨0, rfl, by omega, Si.okT_zero l, rfl⟩
      obtain ⟨i, rfl, hgk, hok, rfl⟩ := hrel
      have HGK := Lib.hid hgk
      have HOK := Lib.hid hok
      have yi : (i : Int) ≤ (n : Int) := by omega
      clear hgk hok
      by_cases hlt : i < n
      · have HLT := Lib.hid hlt
        have y3 : (i : Int) < (n : Int) := by omega
        obtain ⟨s, hs⟩ : ∃ s, l[i]? = some s := ⟨l[i]'(by rw [HLN.out]; exact hlt), List.getElem?_eq_getElem (by rw [HLN.out]; exact hlt)⟩
        obtain ⟨g, off, hA, hrg⟩ := lim_rng HR.out hs
        subst hA
        have HS := Lib.hid hs
        have HRG := Lib.hid hrg
        clear hlt hs hrg
        go_upto_region 4 with fail
        refine wp_region_lit ?_
        refine wpList_run (v := .int .i64 (i : Int)) (wanted_none rfl) (exec_move rfl rfl) ?_
        simp only [Act.put, List.setIfInBounds_toArray, List.set_cons_zero, List.set_cons_succ]
        refine wpList_run (v := .slice (some ⟨g, off, none⟩) n c) (wanted_none rfl) (exec_move rfl rfl) ?_
        simp only [Act.put, List.setIfInBounds_toArray, List.set_cons_zero, List.set_cons_succ]
        refine wpList_run (v := .int .i64 (n : Int)) (wanted_none rfl) (gx_len rfl rfl Try.underlying22) ?_
        simp only [Act.put, List.setIfInBounds_toArray, List.set_cons_zero, List.set_cons_succ]
        refine wpList_run (v := .bool true) (wanted_none rfl) (ix_lss rfl rfl rfl (decide_eq_true y3)) ?_
        simp only [Act.put, List.setIfInBounds_toArray, List.set_cons_zero, List.set_cons_succ]
        by_cases a0 : s.1 < 0
        · have HE := Lib.hid (show Si.newE l = 150 from Si.newE_bad HLL.out fun e => by have h9 := e s (List.mem_of_getElem? HS.out); unfold Si.okA at h9; omega)
          go_upto_region 6 with fail
          first
          | (rename_i K9 hK9; have HKC := Lib.hid hK9; clear hK9)
          | (rename_i K9 hK9 K8; have HKC := Lib.hid hK9; clear hK9)
          refine wp_region_lit ?_
          refine wpList_run (v := .slice (some ⟨g, off, none⟩) n c) (wanted_none rfl) (exec_move rfl rfl) ?_
          simp only [Act.put, List.setIfInBounds_toArray, List.set_cons_zero, List.set_cons_succ]
          refine wpList_run (v := .int .i64 (i : Int)) (wanted_none rfl) (exec_move rfl rfl) ?_
          simp only [Act.put, List.setIfInBounds_toArray, List.set_cons_zero, List.set_cons_succ]
          refine wpList_run (v := .pointer (some ⟨g, off + i * 2, none⟩)) (wanted_none rfl) (gx_iaddr (i := i) (sz := 2) rfl rfl rfl Try.underlying22 size_st HLT.out rfl) ?_
          simp only [Act.put, List.setIfInBounds_toArray, List.set_cons_zero, List.set_cons_succ]
          refine wpList_run (v := .pointer (some ⟨g, off + i * 2 + 0, none⟩)) (wanted_none rfl) (exec_field (off := off + i * 2) (d := 0) rfl rfl (by kernel_rfl)) ?_
          simp only [Act.put, List.setIfInBounds_toArray, List.set_cons_zero, List.set_cons_succ]
          refine wpList_run (v := .int .i64 s.1) (wanted_none rfl) (exec_load1 rfl rfl (by kernel_rfl) (HRG.out 0 _ rfl)) ?_
          simp only [Act.put, List.setIfInBounds_toArray, List.set_cons_zero, List.set_cons_succ]
          refine wpList_run (v := .bool true) (wanted_none rfl) (ix_lss rfl rfl rfl (decide_eq_true a0)) ?_
          simp only [Act.put, List.setIfInBounds_toArray, List.set_cons_zero, List.set_cons_succ]
          refine wpList_run (v := .bool true) (wanted_none rfl) (exec_move rfl rfl) ?_
          simp only [Act.put, List.setIfInBounds_toArray, List.set_cons_zero, List.set_cons_succ]
          go_wp2_with fail
          refine HKC.out _ _ ?_
          clear HKC
          go_upto_region 7 with fail
          refine wp_region_lit ?_
          refine wpList_run (v := .pointer none) (wanted_none rfl) (gx_assign rfl rfl) ?_
          simp only [Act.put, List.setIfInBounds_toArray, List.set_cons_zero, List.set_cons_succ]
          refine wpList_run (v := .int .i64 150) (wanted_none rfl) (gx_assign rfl rfl) ?_
          simp only [Act.put, List.setIfInBounds_toArray, List.set_cons_zero, List.set_cons_succ]
          go_wp2_with fail
          go_ret2
          exact .inl ⟨by rw [HE.out]; decide, by rw [HE.out]; rfl, Turn.refl _ _⟩
        · by_cases a1 : 999999999999 < s.1
          · have HE := Lib.hid (show Si.newE l = 150 from Si.newE_bad HLL.out fun e => by have h9 := e s (List.mem_of_getElem? HS.out); unfold Si.okA at h9; omega)
            go_upto_region 6 with fail
            first
            | (rename_i K9 hK9; have HKC := Lib.hid hK9; clear hK9)
            | (rename_i K9 hK9 K8; have HKC := Lib.hid hK9; clear hK9)
            refine wp_region_lit ?_
            refine wpList_run (v := .slice (some ⟨g, off, none⟩) n c) (wanted_none rfl) (exec_move rfl rfl) ?_
            simp only [Act.put, List.setIfInBounds_toArray, List.set_cons_zero, List.set_cons_succ]
            refine wpList_run (v := .int .i64 (i : Int)) (wanted_none rfl) (exec_move rfl rfl) ?_
            simp only [Act.put, List.setIfInBounds_toArray, List.set_cons_zero, List.set_cons_succ]
            refine wpList_run (v := .pointer (some ⟨g, off + i * 2, none⟩)) (wanted_none rfl) (gx_iaddr (i := i) (sz := 2) rfl rfl rfl Try.underlying22 size_st HLT.out rfl) ?_
            simp only [Act.put, List.setIfInBounds_toArray, List.set_cons_zero, List.set_cons_succ]
            refine wpList_run (v := .pointer (some ⟨g, off + i * 2 + 0, none⟩)) (wanted_none rfl) (exec_field (off := off + i * 2) (d := 0) rfl rfl (by kernel_rfl)) ?_
            simp only [Act.put, List.setIfInBounds_toArray, List.set_cons_zero, List.set_cons_succ]
            refine wpList_run (v := .int .i64 s.1) (wanted_none rfl) (exec_load1 rfl rfl (by kernel_rfl) (HRG.out 0 _ rfl)) ?_
            simp only [Act.put, List.setIfInBounds_toArray, List.set_cons_zero, List.set_cons_succ]
            refine wpList_run (v := .bool false) (wanted_none rfl) (ix_lss rfl rfl rfl (decide_eq_false a0)) ?_
            simp only [Act.put, List.setIfInBounds_toArray, List.set_cons_zero, List.set_cons_succ]
            refine wpList_run (v := .bool false) (wanted_none rfl) (exec_move rfl rfl) ?_
            simp only [Act.put, List.setIfInBounds_toArray, List.set_cons_zero, List.set_cons_succ]
            refine wpList_run (v := .slice (some ⟨g, off, none⟩) n c) rfl (exec_move rfl rfl) ?_
            simp only [Act.put, List.setIfInBounds_toArray, List.set_cons_zero, List.set_cons_succ]
            refine wpList_run (v := .int .i64 (i : Int)) rfl (exec_move rfl rfl) ?_
            simp only [Act.put, List.setIfInBounds_toArray, List.set_cons_zero, List.set_cons_succ]
            refine wpList_run (v := .pointer (some ⟨g, off + i * 2, none⟩)) rfl (gx_iaddr (i := i) (sz := 2) rfl rfl rfl Try.underlying22 size_st HLT.out rfl) ?_
            simp only [Act.put, List.setIfInBounds_toArray, List.set_cons_zero, List.set_cons_succ]
            refine wpList_run (v := .pointer (some ⟨g, off + i * 2 + 0, none⟩)) rfl (exec_field (off := off + i * 2) (d := 0) rfl rfl (by kernel_rfl)) ?_
            simp only [Act.put, List.setIfInBounds_toArray, List.set_cons_zero, List.set_cons_succ]
            refine wpList_run (v := .int .i64 s.1) rfl (exec_load1 rfl rfl (by kernel_rfl) (HRG.out 0 _ rfl)) ?_
            simp only [Act.put, List.setIfInBounds_toArray, List.set_cons_zero, List.set_cons_succ]
            refine wpList_run (v := .bool true) rfl (ix_gtr rfl rfl rfl (decide_eq_true a1)) ?_
            simp only [Act.put, List.setIfInBounds_toArray, List.set_cons_zero, List.set_cons_succ]
            refine wpList_run (v := .bool true) (wanted_none rfl) (ix_pickF rfl rfl rfl) ?_
            simp only [Act.put, List.setIfInBounds_toArray, List.set_cons_zero, List.set_cons_succ]
            refine wpList_run (v := .bool true) (wanted_none rfl) (exec_move rfl rfl) ?_
            simp only [Act.put, List.setIfInBounds_toArray, List.set_cons_zero, List.set_cons_succ]
            go_wp2_with fail
            refine HKC.out _ _ ?_
            clear HKC
            go_upto_region 7 with fail
            refine wp_region_lit ?_
            refine wpList_run (v := .pointer none) (wanted_none rfl) (gx_assign rfl rfl) ?_
            simp only [Act.put, List.setIfInBounds_toArray, List.set_cons_zero, List.set_cons_succ]
            refine wpList_run (v := .int .i64 150) (wanted_none rfl) (gx_assign rfl rfl) ?_
            simp only [Act.put, List.setIfInBounds_toArray, List.set_cons_zero, List.set_cons_succ]
            go_wp2_with fail
            go_ret2
            exact .inl ⟨by rw [HE.out]; decide, by rw [HE.out]; rfl, Turn.refl _ _⟩
          · by_cases a2 : s.2 < 0
            · have HE := Lib.hid (show Si.newE l = 150 from Si.newE_bad HLL.out fun e => by have h9 := e s (List.mem_of_getElem? HS.out); unfold Si.okA at h9; omega)
              go_upto_region 6 with fail
              first
              | (rename_i K9 hK9; have HKC := Lib.hid hK9; clear hK9)
              | (rename_i K9 hK9 K8; have HKC := Lib.hid hK9; clear hK9)
              refine wp_region_lit ?_
              refine wpList_run (v := .slice (some ⟨g, off, none⟩) n c) (wanted_none rfl) (exec_move rfl rfl) ?_
              simp only [Act.put, List.setIfInBounds_toArray, List.set_cons_zero, List.set_cons_succ]
              refine wpList_run (v := .int .i64 (i : Int)) (wanted_none rfl) (exec_move rfl rfl) ?_
              simp only [Act.put, List.setIfInBounds_toArray, List.set_cons_zero, List.set_cons_succ]
              refine wpList_run (v := .pointer (some ⟨g, off + i * 2, none⟩)) (wanted_none rfl) (gx_iaddr (i := i) (sz := 2) rfl rfl rfl Try.underlying22 size_st HLT.out rfl) ?_
              simp only [Act.put, List.setIfInBounds_toArray, List.set_cons_zero, List.set_cons_succ]
              refine wpList_run (v := .pointer (some ⟨g, off + i * 2 + 0, none⟩)) (wanted_none rfl) (exec_field (off := off + i * 2) (d := 0) rfl rfl (by kernel_rfl)) ?_
              simp only [Act.put, List.setIfInBounds_toArray, List.set_cons_zero, List.set_cons_succ]
              refine wpList_run (v := .int .i64 s.1) (wanted_none rfl) (exec_load1 rfl rfl (by kernel_rfl) (HRG.out 0 _ rfl)) ?_
              simp only [Act.put, List.setIfInBounds_toArray, List.set_cons_zero, List.set_cons_succ]
              refine wpList_run (v := .bool false) (wanted_none rfl) (ix_lss rfl rfl rfl (decide_eq_false a0)) ?_
              simp only [Act.put, List.setIfInBounds_toArray, List.set_cons_zero, List.set_cons_succ]
              refine wpList_run (v := .bool false) (wanted_none rfl) (exec_move rfl rfl) ?_
              simp only [Act.put, List.setIfInBounds_toArray, List.set_cons_zero, List.set_cons_succ]
              refine wpList_run (v := .slice (some ⟨g, off, none⟩) n c) rfl (exec_move rfl rfl) ?_
              simp only [Act.put, List.setIfInBounds_toArray, List.set_cons_zero, List.set_cons_succ]
              refine wpList_run (v := .int .i64 (i : Int)) rfl (exec_move rfl rfl) ?_
              simp only [Act.put, List.setIfInBounds_toArray, List.set_cons_zero, List.set_cons_succ]
              refine wpList_run (v := .pointer (some ⟨g, off + i * 2, none⟩)) rfl (gx_iaddr (i := i) (sz := 2) rfl rfl rfl Try.underlying22 size_st HLT.out rfl) ?_
              simp only [Act.put, List.setIfInBounds_toArray, List.set_cons_zero, List.set_cons_succ]
              refine wpList_run (v := .pointer (some ⟨g, off + i * 2 + 0, none⟩)) rfl (exec_field (off := off + i * 2) (d := 0) rfl rfl (by kernel_rfl)) ?_
              simp only [Act.put, List.setIfInBounds_toArray, List.set_cons_zero, List.set_cons_succ]
              refine wpList_run (v := .int .i64 s.1) rfl (exec_load1 rfl rfl (by kernel_rfl) (HRG.out 0 _ rfl)) ?_
              simp only [Act.put, List.setIfInBounds_toArray, List.set_cons_zero, List.set_cons_succ]
              refine wpList_run (v := .bool false) rfl (ix_gtr rfl rfl rfl (decide_eq_false a1)) ?_
              simp only [Act.put, List.setIfInBounds_toArray, List.set_cons_zero, List.set_cons_succ]
              refine wpList_run (v := .bool false) (wanted_none rfl) (ix_pickF rfl rfl rfl) ?_
              simp only [Act.put, List.setIfInBounds_toArray, List.set_cons_zero, List.set_cons_succ]
              refine wpList_run (v := .bool false) (wanted_none rfl) (exec_move rfl rfl) ?_
              simp only [Act.put, List.setIfInBounds_toArray, List.set_cons_zero, List.set_cons_succ]
              refine wpList_run (v := .slice (some ⟨g, off, none⟩) n c) rfl (exec_move rfl rfl) ?_
              simp only [Act.put, List.setIfInBounds_toArray, List.set_cons_zero, List.set_cons_succ]
              refine wpList_run (v := .int .i64 (i : Int)) rfl (exec_move rfl rfl) ?_
              simp only [Act.put, List.setIfInBounds_toArray, List.set_cons_zero, List.set_cons_succ]
              refine wpList_run (v := .pointer (some ⟨g, off + i * 2, none⟩)) rfl (gx_iaddr (i := i) (sz := 2) rfl rfl rfl Try.underlying22 size_st HLT.out rfl) ?_
              simp only [Act.put, List.setIfInBounds_toArray, List.set_cons_zero, List.set_cons_succ]
              refine wpList_run (v := .pointer (some ⟨g, off + i * 2 + 1, none⟩)) rfl (exec_field (off := off + i * 2) (d := 1) rfl rfl (by kernel_rfl)) ?_
              simp only [Act.put, List.setIfInBounds_toArray, List.set_cons_zero, List.set_cons_succ]
              refine wpList_run (v := .int .i64 s.2) rfl (exec_load1 rfl rfl (by kernel_rfl) (HRG.out 1 _ rfl)) ?_
              simp only [Act.put, List.setIfInBounds_toArray, List.set_cons_zero, List.set_cons_succ]
              refine wpList_run (v := .bool true) rfl (ix_lss rfl rfl rfl (decide_eq_true a2)) ?_
              simp only [Act.put, List.setIfInBounds_toArray, List.set_cons_zero, List.set_cons_succ]
              refine wpList_run (v := .bool true) (wanted_none rfl) (ix_pickF rfl rfl rfl) ?_
              simp only [Act.put, List.setIfInBounds_toArray, List.set_cons_zero, List.set_cons_succ]
              refine wpList_run (v := .bool true) (wanted_none rfl) (exec_move rfl rfl) ?_
              simp only [Act.put, List.setIfInBounds_toArray, List.set_cons_zero, List.set_cons_succ]
              go_wp2_with fail
              refine HKC.out _ _ ?_
              clear HKC
              go_upto_region 7 with fail
              refine wp_region_lit ?_
              refine wpList_run (v := .pointer none) (wanted_none rfl) (gx_assign rfl rfl) ?_
              simp only [Act.put, List.setIfInBounds_toArray, List.set_cons_zero, List.set_cons_succ]
              refine wpList_run (v := .int .i64 150) (wanted_none rfl) (gx_assign rfl rfl) ?_
              simp only [Act.put, List.setIfInBounds_toArray, List.set_cons_zero, List.set_cons_succ]
              go_wp2_with fail
              go_ret2
              exact .inl ⟨by rw [HE.out]; decide, by rw [HE.out]; rfl, Turn.refl _ _⟩
            · by_cases a3 : 999999999999 < s.2
              · have HE := Lib.hid (show Si.newE l = 150 from Si.newE_bad HLL.out fun e => by have h9 := e s (List.mem_of_getElem? HS.out); unfold Si.okA at h9; omega)
                go_upto_region 6 with fail
                refine wp_region_lit ?_
                refine wpList_run (v := .slice (some ⟨g, off, none⟩) n c) (wanted_none rfl) (exec_move rfl rfl) ?_
                simp only [Act.put, List.setIfInBounds_toArray, List.set_cons_zero, List.set_cons_succ]
                refine wpList_run (v := .int .i64 (i : Int)) (wanted_none rfl) (exec_move rfl rfl) ?_
                simp only [Act.put, List.setIfInBounds_toArray, List.set_cons_zero, List.set_cons_succ]
                refine wpList_run (v := .pointer (some ⟨g, off + i * 2, none⟩)) (wanted_none rfl) (gx_iaddr (i := i) (sz := 2) rfl rfl rfl Try.underlying22 size_st HLT.out rfl) ?_
                simp only [Act.put, List.setIfInBounds_toArray, List.set_cons_zero, List.set_cons_succ]
                refine wpList_run (v := .pointer (some ⟨g, off + i * 2 + 0, none⟩)) (wanted_none rfl) (exec_field (off := off + i * 2) (d := 0) rfl rfl (by kernel_rfl)) ?_
                simp only [Act.put, List.setIfInBounds_toArray, List.set_cons_zero, List.set_cons_succ]
                refine wpList_run (v := .int .i64 s.1) (wanted_none rfl) (exec_load1 rfl rfl (by kernel_rfl) (HRG.out 0 _ rfl)) ?_
                simp only [Act.put, List.setIfInBounds_toArray, List.set_cons_zero, List.set_cons_succ]
                refine wpList_run (v := .bool false) (wanted_none rfl) (ix_lss rfl rfl rfl (decide_eq_false a0)) ?_
                simp only [Act.put, List.setIfInBounds_toArray, List.set_cons_zero, List.set_cons_succ]
                refine wpList_run (v := .bool false) (wanted_none rfl) (exec_move rfl rfl) ?_
                simp only [Act.put, List.setIfInBounds_toArray, List.set_cons_zero, List.set_cons_succ]
                refine wpList_run (v := .slice (some ⟨g, off, none⟩) n c) rfl (exec_move rfl rfl) ?_
                simp only [Act.put, List.setIfInBounds_toArray, List.set_cons_zero, List.set_cons_succ]
                refine wpList_run (v := .int .i64 (i : Int)) rfl (exec_move rfl rfl) ?_
                simp only [Act.put, List.setIfInBounds_toArray, List.set_cons_zero, List.set_cons_succ]
                refine wpList_run (v := .pointer (some ⟨g, off + i * 2, none⟩)) rfl (gx_iaddr (i := i) (sz := 2) rfl rfl rfl Try.underlying22 size_st HLT.out rfl) ?_
                simp only [Act.put, List.setIfInBounds_toArray, List.set_cons_zero, List.set_cons_succ]
                refine wpList_run (v := .pointer (some ⟨g, off + i * 2 + 0, none⟩)) rfl (exec_field (off := off + i * 2) (d := 0) rfl rfl (by kernel_rfl)) ?_
                simp only [Act.put, List.setIfInBounds_toArray, List.set_cons_zero, List.set_cons_succ]
                refine wpList_run (v := .int .i64 s.1) rfl (exec_load1 rfl rfl (by kernel_rfl) (HRG.out 0 _ rfl)) ?_
                simp only [Act.put, List.setIfInBounds_toArray, List.set_cons_zero, List.set_cons_succ]
                refine wpList_run (v := .bool false) rfl (ix_gtr rfl rfl rfl (decide_eq_false a1)) ?_
                simp only [Act.put, List.setIfInBounds_toArray, List.set_cons_zero, List.set_cons_succ]
                refine wpList_run (v := .bool false) (wanted_none rfl) (ix_pickF rfl rfl rfl) ?_
                simp only [Act.put, List.setIfInBounds_toArray, List.set_cons_zero, List.set_cons_succ]
                refine wpList_run (v := .bool false) (wanted_none rfl) (exec_move rfl rfl) ?_
                simp only [Act.put, List.setIfInBounds_toArray, List.set_cons_zero, List.set_cons_succ]
                refine wpList_run (v := .slice (some ⟨g, off, none⟩) n c) rfl (exec_move rfl rfl) ?_
                simp only [Act.put, List.setIfInBounds_toArray, List.set_cons_zero, List.set_cons_succ]
                refine wpList_run (v := .int .i64 (i : Int)) rfl (exec_move rfl rfl) ?_
                simp only [Act.put, List.setIfInBounds_toArray, List.set_cons_zero, List.set_cons_succ]
                refine wpList_run (v := .pointer (some ⟨g, off + i * 2, none⟩)) rfl (gx_iaddr (i := i) (sz := 2) rfl rfl rfl Try.underlying22 size_st HLT.out rfl) ?_
                simp only [Act.put, List.setIfInBounds_toArray, List.set_cons_zero, List.set_cons_succ]
                refine wpList_run (v := .pointer (some ⟨g, off + i * 2 + 1, none⟩)) rfl (exec_field (off := off + i * 2) (d := 1) rfl rfl (by kernel_rfl)) ?_
                simp only [Act.put, List.setIfInBounds_toArray, List.set_cons_zero, List.set_cons_succ]
                refine wpList_run (v := .int .i64 s.2) rfl (exec_load1 rfl rfl (by kernel_rfl) (HRG.out 1 _ rfl)) ?_
                simp only [Act.put, List.setIfInBounds_toArray, List.set_cons_zero, List.set_cons_succ]
                refine wpList_run (v := .bool false) rfl (ix_lss rfl rfl rfl (decide_eq_false a2)) ?_
                simp only [Act.put, List.setIfInBounds_toArray, List.set_cons_zero, List.set_cons_succ]
                refine wpList_run (v := .bool false) (wanted_none rfl) (ix_pickF rfl rfl rfl) ?_
                simp only [Act.put, List.setIfInBounds_toArray, List.set_cons_zero, List.set_cons_succ]
                refine wpList_run (v := .bool false) (wanted_none rfl) (exec_move rfl rfl) ?_
                simp only [Act.put, List.setIfInBounds_toArray, List.set_cons_zero, List.set_cons_succ]
                refine wpList_run (v := .slice (some ⟨g, off, none⟩) n c) rfl (exec_move rfl rfl) ?_
                simp only [Act.put, List.setIfInBounds_toArray, List.set_cons_zero, List.set_cons_succ]
                refine wpList_run (v := .int .i64 (i : Int)) rfl (exec_move rfl rfl) ?_
                simp only [Act.put, List.setIfInBounds_toArray, List.set_cons_zero, List.set_cons_succ]
                refine wpList_run (v := .pointer (some ⟨g, off + i * 2, none⟩)) rfl (gx_iaddr (i := i) (sz := 2) rfl rfl rfl Try.underlying22 size_st HLT.out rfl) ?_
                simp only [Act.put, List.setIfInBounds_toArray, List.set_cons_zero, List.set_cons_succ]
                refine wpList_run (v := .pointer (some ⟨g, off + i * 2 + 1, none⟩)) rfl (exec_field (off := off + i * 2) (d := 1) rfl rfl (by kernel_rfl)) ?_
                simp only [Act.put, List.setIfInBounds_toArray, List.set_cons_zero, List.set_cons_succ]
                refine wpList_run (v := .int .i64 s.2) rfl (exec_load1 rfl rfl (by kernel_rfl) (HRG.out 1 _ rfl)) ?_
                simp only [Act.put, List.setIfInBounds_toArray, List.set_cons_zero, List.set_cons_succ]
                refine wpList_run (v := .bool true) rfl (ix_gtr rfl rfl rfl (decide_eq_true a3)) ?_
                simp only [Act.put, List.setIfInBounds_toArray, List.set_cons_zero, List.set_cons_succ]
                refine wpList_run (v := .bool true) (wanted_none rfl) (ix_pickF rfl rfl rfl) ?_
                simp only [Act.put, List.setIfInBounds_toArray, List.set_cons_zero, List.set_cons_succ]
                go_upto_region 7 with fail
                refine wp_region_lit ?_
                refine wpList_run (v := .pointer none) (wanted_none rfl) (gx_assign rfl rfl) ?_
                simp only [Act.put, List.setIfInBounds_toArray, List.set_cons_zero, List.set_cons_succ]
                refine wpList_run (v := .int .i64 150) (wanted_none rfl) (gx_assign rfl rfl) ?_
                simp only [Act.put, List.setIfInBounds_toArray, List.set_cons_zero, List.set_cons_succ]
                go_wp2_with fail
                go_ret2
                exact .inl ⟨by rw [HE.out]; decide, by rw [HE.out]; rfl, Turn.refl _ _⟩
              · have HOK2 := Lib.hid (Si.okT_step HOK.out HS.out ⟨by omega, by omega⟩ ⟨by omega, by omega⟩)
                go_upto_region 6 with fail
                refine wp_region_lit ?_
                refine wpList_run (v := .slice (some ⟨g, off, none⟩) n c) (wanted_none rfl) (exec_move rfl rfl) ?_
                simp only [Act.put, List.setIfInBounds_toArray, List.set_cons_zero, List.set_cons_succ]
                refine wpList_run (v := .int .i64 (i : Int)) (wanted_none rfl) (exec_move rfl rfl) ?_
                simp only [Act.put, List.setIfInBounds_toArray, List.set_cons_zero, List.set_cons_succ]
                refine wpList_run (v := .pointer (some ⟨g, off + i * 2, none⟩)) (wanted_none rfl) (gx_iaddr (i := i) (sz := 2) rfl rfl rfl Try.underlying22 size_st HLT.out rfl) ?_
                simp only [Act.put, List.setIfInBounds_toArray, List.set_cons_zero, List.set_cons_succ]
                refine wpList_run (v := .pointer (some ⟨g, off + i * 2 + 0, none⟩)) (wanted_none rfl) (exec_field (off := off + i * 2) (d := 0) rfl rfl (by kernel_rfl)) ?_
                simp only [Act.put, List.setIfInBounds_toArray, List.set_cons_zero, List.set_cons_succ]
                refine wpList_run (v := .int .i64 s.1) (wanted_none rfl) (exec_load1 rfl rfl (by kernel_rfl) (HRG.out 0 _ rfl)) ?_
                simp only [Act.put, List.setIfInBounds_toArray, List.set_cons_zero, List.set_cons_succ]
                refine wpList_run (v := .bool false) (wanted_none rfl) (ix_lss rfl rfl rfl (decide_eq_false a0)) ?_
                simp only [Act.put, List.setIfInBounds_toArray, List.set_cons_zero, List.set_cons_succ]
                refine wpList_run (v := .bool false) (wanted_none rfl) (exec_move rfl rfl) ?_
                simp only [Act.put, List.setIfInBounds_toArray, List.set_cons_zero, List.set_cons_succ]
                refine wpList_run (v := .slice (some ⟨g, off, none⟩) n c) rfl (exec_move rfl rfl) ?_
                simp only [Act.put, List.setIfInBounds_toArray, List.set_cons_zero, List.set_cons_succ]
                refine wpList_run (v := .int .i64 (i : Int)) rfl (exec_move rfl rfl) ?_
                simp only [Act.put, List.setIfInBounds_toArray, List.set_cons_zero, List.set_cons_succ]
                refine wpList_run (v := .pointer (some ⟨g, off + i * 2, none⟩)) rfl (gx_iaddr (i := i) (sz := 2) rfl rfl rfl Try.underlying22 size_st HLT.out rfl) ?_
                simp only [Act.put, List.setIfInBounds_toArray, List.set_cons_zero, List.set_cons_succ]
                refine wpList_run (v := .pointer (some ⟨g, off + i * 2 + 0, none⟩)) rfl (exec_field (off := off + i * 2) (d := 0) rfl rfl (by kernel_rfl)) ?_
                simp only [Act.put, List.setIfInBounds_toArray, List.set_cons_zero, List.set_cons_succ]
                refine wpList_run (v := .int .i64 s.1) rfl (exec_load1 rfl rfl (by kernel_rfl) (HRG.out 0 _ rfl)) ?_
                simp only [Act.put, List.setIfInBounds_toArray, List.set_cons_zero, List.set_cons_succ]
                refine wpList_run (v := .bool false) rfl (ix_gtr rfl rfl rfl (decide_eq_false a1)) ?_
                simp only [Act.put, List.setIfInBounds_toArray, List.set_cons_zero, List.set_cons_succ]
                refine wpList_run (v := .bool false) (wanted_none rfl) (ix_pickF rfl rfl rfl) ?_
                simp only [Act.put, List.setIfInBounds_toArray, List.set_cons_zero, List.set_cons_succ]
                refine wpList_run (v := .bool false) (wanted_none rfl) (exec_move rfl rfl) ?_
                simp only [Act.put, List.setIfInBounds_toArray, List.set_cons_zero, List.set_cons_succ]
                refine wpList_run (v := .slice (some ⟨g, off, none⟩) n c) rfl (exec_move rfl rfl) ?_
                simp only [Act.put, List.setIfInBounds_toArray, List.set_cons_zero, List.set_cons_succ]
                refine wpList_run (v := .int .i64 (i : Int)) rfl (exec_move rfl rfl) ?_
                simp only [Act.put, List.setIfInBounds_toArray, List.set_cons_zero, List.set_cons_succ]
                refine wpList_run (v := .pointer (some ⟨g, off + i * 2, none⟩)) rfl (gx_iaddr (i := i) (sz := 2) rfl rfl rfl Try.underlying22 size_st HLT.out rfl) ?_
                simp only [Act.put, List.setIfInBounds_toArray, List.set_cons_zero, List.set_cons_succ]
                refine wpList_run (v := .pointer (some ⟨g, off + i * 2 + 1, none⟩)) rfl (exec_field (off := off + i * 2) (d := 1) rfl rfl (by kernel_rfl)) ?_
                simp only [Act.put, List.setIfInBounds_toArray, List.set_cons_zero, List.set_cons_succ]
                refine wpList_run (v := .int .i64 s.2) rfl (exec_load1 rfl rfl (by kernel_rfl) (HRG.out 1 _ rfl)) ?_
                simp only [Act.put, List.setIfInBounds_toArray, List.set_cons_zero, List.set_cons_succ]
                refine wpList_run (v := .bool false) rfl (ix_lss rfl rfl rfl (decide_eq_false a2)) ?_
                simp only [Act.put, List.setIfInBounds_toArray, List.set_cons_zero, List.set_cons_succ]
                refine wpList_run (v := .bool false) (wanted_none rfl) (ix_pickF rfl rfl rfl) ?_
                simp only [Act.put, List.setIfInBounds_toArray, List.set_cons_zero, List.set_cons_succ]
                refine wpList_run (v := .bool false) (wanted_none rfl) (exec_move rfl rfl) ?_
                simp only [Act.put, List.setIfInBounds_toArray, List.set_cons_zero, List.set_cons_succ]
                refine wpList_run (v := .slice (some ⟨g, off, none⟩) n c) rfl (exec_move rfl rfl) ?_
                simp only [Act.put, List.setIfInBounds_toArray, List.set_cons_zero, List.set_cons_succ]
                refine wpList_run (v := .int .i64 (i : Int)) rfl (exec_move rfl rfl) ?_
                simp only [Act.put, List.setIfInBounds_toArray, List.set_cons_zero, List.set_cons_succ]
                refine wpList_run (v := .pointer (some ⟨g, off + i * 2, none⟩)) rfl (gx_iaddr (i := i) (sz := 2) rfl rfl rfl Try.underlying22 size_st HLT.out rfl) ?_
                simp only [Act.put, List.setIfInBounds_toArray, List.set_cons_zero, List.set_cons_succ]
                refine wpList_run (v := .pointer (some ⟨g, off + i * 2 + 1, none⟩)) rfl (exec_field (off := off + i * 2) (d := 1) rfl rfl (by kernel_rfl)) ?_
                simp only [Act.put, List.setIfInBounds_toArray, List.set_cons_zero, List.set_cons_succ]
                refine wpList_run (v := .int .i64 s.2) rfl (exec_load1 rfl rfl (by kernel_rfl) (HRG.out 1 _ rfl)) ?_
                simp only [Act.put, List.setIfInBounds_toArray, List.set_cons_zero, List.set_cons_succ]
                refine wpList_run (v := .bool false) rfl (ix_gtr rfl rfl rfl (decide_eq_false a3)) ?_
                simp only [Act.put, List.setIfInBounds_toArray, List.set_cons_zero, List.set_cons_succ]
                refine wpList_run (v := .bool false) (wanted_none rfl) (ix_pickF rfl rfl rfl) ?_
                simp only [Act.put, List.setIfInBounds_toArray, List.set_cons_zero, List.set_cons_succ]
                go_upto_region 5 with fail
                refine wp_region_lit ?_
                refine wpList_run (v := .int .i64 (i : Int)) (wanted_none rfl) (exec_move rfl rfl) ?_
                simp only [Act.put, List.setIfInBounds_toArray, List.set_cons_zero, List.set_cons_succ]
                refine wpList_run (v := .int .i64 ((i + 1 : Nat) : Int)) (wanted_none rfl) (ix_add rfl rfl rfl (by omega) (by omega)) ?_
                simp only [Act.put, List.setIfInBounds_toArray, List.set_cons_zero, List.set_cons_succ]
                refine wpList_run (v := .int .i64 ((i + 1 : Nat) : Int)) (wanted_none rfl) (gx_assign rfl rfl) ?_
                simp only [Act.put, List.setIfInBounds_toArray, List.set_cons_zero, List.set_cons_succ]
                go_wp2_with fail
                go_roundg (n - (i + 1))
                case measure => have := HGK.out; have := HLT.out; omega
                case rel => exact ⟨i + 1, rfl, by have := HLT.out; omega, HOK2.out, rfl⟩
      · obtain rfl : i = n := by omega
        have HOKL := Lib.hid (Si.okT_end HOK.out HLN.out)
        have HE := Lib.hid (Si.newE_ok HLL.out HOKL.out)
        have y3 : ¬ (i : Int) < (i : Int) := by omega
        have HAS : ∃ g off, A = some ⟨g, off, none⟩ := by
          obtain ⟨_, _, _, h4⟩ := HR.out
          obtain ⟨g, off, e, _⟩ := h4 HN1.out
          exact ⟨g, off, e⟩
        obtain ⟨g, off, rfl⟩ := HAS
        obtain ⟨A2, c2, w3, hrun, hor, ht⟩ := copy_rws elmS (ty := 22) (c := c) HR.out (limC_fit l) (fun h => by cases h) (by have := HN6.out; omega)
        have HRUN := Lib.hid hrun
        have hbn := Blk.new w3 52 #[.slice A2 i c2, .slice none 0 0]
        have ht2 := (Turn.refl nowhere w3).alloc (.cells #[.slice A2 i c2, .slice none 0 0] 52)
        have hbx := boxRd A2 none i c2 0 0 w3
        have hsz := ht.size
        obtain ⟨t, htt⟩ : ∃ y, y = w3.heap.size := ⟨_, rfl⟩
        rw [← htt] at hbn hbx
        generalize w3.alloc (.cells #[.slice A2 i c2, .slice none 0 0] 52) = w5 at *
        have HM := Lib.hid (show MadeR wr l 0 (fun _ => 0) (.pointer (some ⟨t, 0, none⟩)) w5 from ⟨t, rfl, ⟨⟨A2, c2, none, 0, 0, [], by rw [HLN.out]; exact hbn, by rw [HLN.out]; exact (hor.less (Nat.zero_le _)).still ht2, Orw.nil _ _ _ _, rfl, Nat.le_refl _, rfl⟩, HOKL.out, HLL.out, fun _ => ⟨by decide, by decide⟩⟩, by omega, ht.trans ht2 fun _ _ e => e⟩)
        have HBX := Lib.hid hbx
        clear hlt hrun hbn ht2 hbx hsz htt hor ht
        go_upto_region 4 with fail
        refine wp_region_lit ?_
        refine wpList_run (v := .int .i64 (i : Int)) (wanted_none rfl) (exec_move rfl rfl) ?_
        simp only [Act.put, List.setIfInBounds_toArray, List.set_cons_zero, List.set_cons_succ]
        refine wpList_run (v := .slice (some ⟨g, off, none⟩) i c) (wanted_none rfl) (exec_move rfl rfl) ?_
        simp only [Act.put, List.setIfInBounds_toArray, List.set_cons_zero, List.set_cons_succ]
        refine wpList_run (v := .int .i64 (i : Int)) (wanted_none rfl) (gx_len rfl rfl Try.underlying22) ?_
        simp only [Act.put, List.setIfInBounds_toArray, List.set_cons_zero, List.set_cons_succ]
        refine wpList_run (v := .bool false) (wanted_none rfl) (ix_lss rfl rfl rfl (decide_eq_false y3)) ?_
        simp only [Act.put, List.setIfInBounds_toArray, List.set_cons_zero, List.set_cons_succ]
        go_upto_region 8 with fail
        refine wp_region_lit ?_
        refine wpList_run (v := .slice (some ⟨wr.heap.size, 0, none⟩) 0 0) (w' := wr.alloc (.cells #[] 30)) (wanted_none rfl) (bx_slice0 rfl (build0S _)) ?_
        simp only [Act.put, List.setIfInBounds_toArray, List.set_cons_zero, List.set_cons_succ]
        refine wpList_run (v := .slice (some ⟨g, off, none⟩) i c) (wanted_none rfl) (exec_move rfl rfl) ?_
        simp only [Act.put, List.setIfInBounds_toArray, List.set_cons_zero, List.set_cons_succ]
        refine wpList_run (v := .slice A2 i c2) (w' := w3) (wanted_none rfl) (exec_append rfl rfl rfl HRUN.out) ?_
        simp only [Act.put, List.setIfInBounds_toArray, List.set_cons_zero, List.set_cons_succ]
        refine wpList_run (v := .agg #[.slice A2 i c2, .slice none 0 0]) (wanted_none rfl) (gx_build1 rfl rfl (buildRd1 _ _ _ _)) ?_
        simp only [Act.put, List.setIfInBounds_toArray, List.set_cons_zero, List.set_cons_succ]
        refine wpList_run (v := .pointer (some ⟨t, 0, none⟩)) (w' := w5) (wanted_none rfl) (gx_box rfl rfl HBX.out) ?_
        simp only [Act.put, List.setIfInBounds_toArray, List.set_cons_zero, List.set_cons_succ]
        refine wpList_run (v := .pointer (some ⟨t, 0, none⟩)) (wanted_none rfl) (gx_assign rfl rfl) ?_
        simp only [Act.put, List.setIfInBounds_toArray, List.set_cons_zero, List.set_cons_succ]
        refine wpList_run (v := .int .i64 0) (wanted_none rfl) (gx_assign rfl rfl) ?_
        simp only [Act.put, List.setIfInBounds_toArray, List.set_cons_zero, List.set_cons_succ]
        go_wp2_with fail
        go_ret2
        exact .inr ⟨HE.out, _, rfl, HM.out⟩
set_option maxRecDepth 20000 in
set_option maxHeartbeats 4000000 in
theorem rHad_walk {w : World} {y n : Nat} {l : Lims} {h : Card → Int} (dd : RDesk w y l n h) (hn : n ≤ 1000000) (c0 : Card) :
    Calls Try.prog 17 #[.pointer (some ⟨y, 0, none⟩), .int .i64 c0.1, strV c0.2] w fun e w' => e = .returned (.int .i64 (h c0)) ∧ w' = w := by
  obtain ⟨A, c, B, m, d, L, hb, hlr, hr, hm, hmn, htd⟩ := dd.blk
  obtain ⟨n2, hn2⟩ : ∃ x, x = l.length := ⟨_, rfl⟩
  rw [← hn2] at hb hlr
  have HB := Lib.hid hb
  have HR := Lib.hid hr
  have HM := Lib.hid hm
  have HLR := Lib.hid hlr
  have HTD := Lib.hid (show h c0 = Si.told L c0 from by rw [htd])
  have ym : (m : Int) ≤ 1000000 := by omega
  clear dd hb hlr hr hm hmn htd hn hn2 HLR
  generalize h c0 = hc at *
  go_enter Try.func17, Try.ntmps17
  go_upto_region 0 with fail
  refine wp_region_lit ?_
  refine wpList_run (v := .int .i64 0) (wanted_none rfl) (gx_assign rfl rfl) ?_
  simp only [Act.put, List.setIfInBounds_toArray, List.set_cons_zero, List.set_cons_succ]
  go_upto_region 1 with fail
  refine wp_region_lit ?_
  refine wpList_run (v := .int .i64 0) (wanted_none rfl) (gx_assign rfl rfl) ?_
  simp only [Act.put, List.setIfInBounds_toArray, List.set_cons_zero, List.set_cons_succ]
  go_wp2_with fail
  go_loopg [6, 7] m (fun gk rv iv wr => ∃ i : Nat, iv = .int .i64 (i : Int) ∧ i + gk = m ∧ (∀ j x, j < i → L[j]? = some x → ¬ (x.1 = c0.1 ∧ x.2.2 = c0.2)) ∧ wr = w)
  case atStart => exact ⟨0, rfl, by omega, fun j x hj => absurd hj (by omega), rfl⟩
  obtain ⟨i, rfl, hgk, hno, rfl⟩ := hrel
  have HGK := Lib.hid hgk
  have HNO := Lib.hid hno
  have yi : (i : Int) ≤ (m : Int) := by omega
  clear hgk hno
  by_cases hlt : i < m
  · have HLT := Lib.hid hlt
    have y3 : (i : Int) < (m : Int) := by omega
    obtain ⟨x, hx⟩ : ∃ x, L[i]? = some x := ⟨L[i]'(by rw [HM.out]; exact hlt), List.getElem?_eq_getElem (by rw [HM.out]; exact hlt)⟩
    obtain ⟨g, rfl, hrg⟩ := had_rng HR.out hx
    have HX := Lib.hid hx
    have HRG := Lib.hid hrg
    clear hlt hx hrg
    go_upto_region 2 with fail
    refine wp_region_lit ?_
    refine wpList_run (v := .int .i64 (i : Int)) (wanted_none rfl) (exec_move rfl rfl) ?_
    simp only [Act.put, List.setIfInBounds_toArray, List.set_cons_zero, List.set_cons_succ]
    refine wpList_run (v := .pointer (some ⟨y, 0, none⟩)) (wanted_none rfl) (exec_move rfl rfl) ?_
    simp only [Act.put, List.setIfInBounds_toArray, List.set_cons_zero, List.set_cons_succ]
    refine wpList_run (v := .pointer (some ⟨y, 0, none⟩)) (wanted_none rfl) (exec_nil rfl rfl) ?_
    simp only [Act.put, List.setIfInBounds_toArray, List.set_cons_zero, List.set_cons_succ]
    refine wpList_run (v := .pointer (some ⟨y, 1, none⟩)) (wanted_none rfl) (exec_field (off := 0) (d := 1) rfl rfl (by kernel_rfl)) ?_
    simp only [Act.put, List.setIfInBounds_toArray, List.set_cons_zero, List.set_cons_succ]
    refine wpList_run (v := .slice (some ⟨g, 0, none⟩) m d) (wanted_none rfl) (exec_load1 rfl rfl (by kernel_rfl) (HB.out.cell 1)) ?_
    simp only [Act.put, List.setIfInBounds_toArray, List.set_cons_zero, List.set_cons_succ]
    refine wpList_run (v := .int .i64 (m : Int)) (wanted_none rfl) (gx_len rfl rfl Try.underlying50) ?_
    simp only [Act.put, List.setIfInBounds_toArray, List.set_cons_zero, List.set_cons_succ]
    refine wpList_run (v := .bool true) (wanted_none rfl) (ix_lss rfl rfl rfl (decide_eq_true y3)) ?_
    simp only [Act.put, List.setIfInBounds_toArray, List.set_cons_zero, List.set_cons_succ]
    by_cases he : x.1 = c0.1
    · by_cases hp : x.2.2 = c0.2
      · have HF := Lib.hid (show Si.told L c0 = x.2.1 from Si.told_at HX.out ⟨he, hp⟩ HNO.out)
        have HE := Lib.hid he
        have HP := Lib.hid hp
        clear he hp
        go_upto_region 4 with fail
        refine wp_region_lit ?_
        refine wpList_run (v := .pointer (some ⟨y, 0, none⟩)) (wanted_none rfl) (exec_move rfl rfl) ?_
        simp only [Act.put, List.setIfInBounds_toArray, List.set_cons_zero, List.set_cons_succ]
        refine wpList_run (v := .pointer (some ⟨y, 0, none⟩)) (wanted_none rfl) (exec_nil rfl rfl) ?_
        simp only [Act.put, List.setIfInBounds_toArray, List.set_cons_zero, List.set_cons_succ]
        refine wpList_run (v := .pointer (some ⟨y, 1, none⟩)) (wanted_none rfl) (exec_field (off := 0) (d := 1) rfl rfl (by kernel_rfl)) ?_
        simp only [Act.put, List.setIfInBounds_toArray, List.set_cons_zero, List.set_cons_succ]
        refine wpList_run (v := .slice (some ⟨g, 0, none⟩) m d) (wanted_none rfl) (exec_load1 rfl rfl (by kernel_rfl) (HB.out.cell 1)) ?_
        simp only [Act.put, List.setIfInBounds_toArray, List.set_cons_zero, List.set_cons_succ]
        refine wpList_run (v := .int .i64 (i : Int)) (wanted_none rfl) (exec_move rfl rfl) ?_
        simp only [Act.put, List.setIfInBounds_toArray, List.set_cons_zero, List.set_cons_succ]
        refine wpList_run (v := .pointer (some ⟨g, 0 + i * 3, none⟩)) (wanted_none rfl) (gx_iaddr (i := i) (sz := 3) rfl rfl rfl Try.underlying50 size_had HLT.out rfl) ?_
        simp only [Act.put, List.setIfInBounds_toArray, List.set_cons_zero, List.set_cons_succ]
        refine wpList_run (v := .pointer (some ⟨g, 0 + i * 3 + 0, none⟩)) (wanted_none rfl) (exec_field (off := 0 + i * 3) (d := 0) rfl rfl (by kernel_rfl)) ?_
        simp only [Act.put, List.setIfInBounds_toArray, List.set_cons_zero, List.set_cons_succ]
        refine wpList_run (v := .int .i64 x.1) (wanted_none rfl) (exec_load1 rfl rfl (by kernel_rfl) (HRG.out 0 _ rfl)) ?_
        simp only [Act.put, List.setIfInBounds_toArray, List.set_cons_zero, List.set_cons_succ]
        refine wpList_run (v := .int .i64 c0.1) (wanted_none rfl) (exec_move rfl rfl) ?_
        simp only [Act.put, List.setIfInBounds_toArray, List.set_cons_zero, List.set_cons_succ]
        refine wpList_run (v := .bool true) (wanted_none rfl) (ix_eql rfl rfl rfl (decide_eq_true HE.out)) ?_
        simp only [Act.put, List.setIfInBounds_toArray, List.set_cons_zero, List.set_cons_succ]
        refine wpList_run (v := .bool true) (wanted_none rfl) (exec_move rfl rfl) ?_
        simp only [Act.put, List.setIfInBounds_toArray, List.set_cons_zero, List.set_cons_succ]
        refine wpList_run (v := .pointer (some ⟨y, 0, none⟩)) rfl (exec_move rfl rfl) ?_
        simp only [Act.put, List.setIfInBounds_toArray, List.set_cons_zero, List.set_cons_succ]
        refine wpList_run (v := .pointer (some ⟨y, 0, none⟩)) rfl (exec_nil rfl rfl) ?_
        simp only [Act.put, List.setIfInBounds_toArray, List.set_cons_zero, List.set_cons_succ]
        refine wpList_run (v := .pointer (some ⟨y, 1, none⟩)) rfl (exec_field (off := 0) (d := 1) rfl rfl (by kernel_rfl)) ?_
        simp only [Act.put, List.setIfInBounds_toArray, List.set_cons_zero, List.set_cons_succ]
        refine wpList_run (v := .slice (some ⟨g, 0, none⟩) m d) rfl (exec_load1 rfl rfl (by kernel_rfl) (HB.out.cell 1)) ?_
        simp only [Act.put, List.setIfInBounds_toArray, List.set_cons_zero, List.set_cons_succ]
        refine wpList_run (v := .int .i64 (i : Int)) rfl (exec_move rfl rfl) ?_
        simp only [Act.put, List.setIfInBounds_toArray, List.set_cons_zero, List.set_cons_succ]
        refine wpList_run (v := .pointer (some ⟨g, 0 + i * 3, none⟩)) rfl (gx_iaddr (i := i) (sz := 3) rfl rfl rfl Try.underlying50 size_had HLT.out rfl) ?_
        simp only [Act.put, List.setIfInBounds_toArray, List.set_cons_zero, List.set_cons_succ]
        refine wpList_run (v := .pointer (some ⟨g, 0 + i * 3 + 2, none⟩)) rfl (exec_field (off := 0 + i * 3) (d := 2) rfl rfl (by kernel_rfl)) ?_
        simp only [Act.put, List.setIfInBounds_toArray, List.set_cons_zero, List.set_cons_succ]
        refine wpList_run (v := strV x.2.2) rfl (exec_load1 rfl rfl (by kernel_rfl) (HRG.out 2 _ rfl)) ?_
        simp only [Act.put, List.setIfInBounds_toArray, List.set_cons_zero, List.set_cons_succ]
        refine wpList_run (v := strV c0.2) rfl (exec_move rfl rfl) ?_
        simp only [Act.put, List.setIfInBounds_toArray, List.set_cons_zero, List.set_cons_succ]
        refine wpList_run (v := .bool true) rfl ((exec_seql rfl rfl rfl).trans (by rw [beq_iff_eq.2 HP.out])) ?_
        simp only [Act.put, List.setIfInBounds_toArray, List.set_cons_zero, List.set_cons_succ]
        refine wpList_run (v := .bool true) (wanted_none rfl) (ix_pickT rfl rfl rfl) ?_
        simp only [Act.put, List.setIfInBounds_toArray, List.set_cons_zero, List.set_cons_succ]
        go_upto_region 5 with fail
        refine wp_region_lit ?_
        refine wpList_run (v := .pointer (some ⟨y, 0, none⟩)) (wanted_none rfl) (exec_move rfl rfl) ?_
        simp only [Act.put, List.setIfInBounds_toArray, List.set_cons_zero, List.set_cons_succ]
        refine wpList_run (v := .pointer (some ⟨y, 0, none⟩)) (wanted_none rfl) (exec_nil rfl rfl) ?_
        simp only [Act.put, List.setIfInBounds_toArray, List.set_cons_zero, List.set_cons_succ]
        refine wpList_run (v := .pointer (some ⟨y, 1, none⟩)) (wanted_none rfl) (exec_field (off := 0) (d := 1) rfl rfl (by kernel_rfl)) ?_
        simp only [Act.put, List.setIfInBounds_toArray, List.set_cons_zero, List.set_cons_succ]
        refine wpList_run (v := .slice (some ⟨g, 0, none⟩) m d) (wanted_none rfl) (exec_load1 rfl rfl (by kernel_rfl) (HB.out.cell 1)) ?_
        simp only [Act.put, List.setIfInBounds_toArray, List.set_cons_zero, List.set_cons_succ]
        refine wpList_run (v := .int .i64 (i : Int)) (wanted_none rfl) (exec_move rfl rfl) ?_
        simp only [Act.put, List.setIfInBounds_toArray, List.set_cons_zero, List.set_cons_succ]
        refine wpList_run (v := .pointer (some ⟨g, 0 + i * 3, none⟩)) (wanted_none rfl) (gx_iaddr (i := i) (sz := 3) rfl rfl rfl Try.underlying50 size_had HLT.out rfl) ?_
        simp only [Act.put, List.setIfInBounds_toArray, List.set_cons_zero, List.set_cons_succ]
        refine wpList_run (v := .pointer (some ⟨g, 0 + i * 3 + 1, none⟩)) (wanted_none rfl) (exec_field (off := 0 + i * 3) (d := 1) rfl rfl (by kernel_rfl)) ?_
        simp only [Act.put, List.setIfInBounds_toArray, List.set_cons_zero, List.set_cons_succ]
        refine wpList_run (v := .int .i64 x.2.1) (wanted_none rfl) (exec_load1 rfl rfl (by kernel_rfl) (HRG.out 1 _ rfl)) ?_
        simp only [Act.put, List.setIfInBounds_toArray, List.set_cons_zero, List.set_cons_succ]
        refine wpList_run (v := .int .i64 x.2.1) (wanted_none rfl) (gx_assign rfl rfl) ?_
        simp only [Act.put, List.setIfInBounds_toArray, List.set_cons_zero, List.set_cons_succ]
        go_wp2_with fail
        go_ret
        exact ⟨by rw [HTD.out, HF.out]; rfl, rfl⟩
      · have HNO2 := Lib.hid (show ∀ j z, j < i + 1 → L[j]? = some z → ¬ (z.1 = c0.1 ∧ z.2.2 = c0.2) from fun j z hj hz => by
          by_cases e : j = i
          · subst e
            rw [HX.out] at hz
            obtain rfl := Option.some.inj hz
            exact fun f => hp f.2
          · exact HNO.out j z (by omega) hz)
        have HE := Lib.hid he
        have HP := Lib.hid hp
        clear he hp
        go_upto_region 4 with fail
        refine wp_region_lit ?_
        refine wpList_run (v := .pointer (some ⟨y, 0, none⟩)) (wanted_none rfl) (exec_move rfl rfl) ?_
        simp only [Act.put, List.setIfInBounds_toArray, List.set_cons_zero, List.set_cons_succ]
        refine wpList_run (v := .pointer (some ⟨y, 0, none⟩)) (wanted_none rfl) (exec_nil rfl rfl) ?_
        simp only [Act.put, List.setIfInBounds_toArray, List.set_cons_zero, List.set_cons_succ]
        refine wpList_run (v := .pointer (some ⟨y, 1, none⟩)) (wanted_none rfl) (exec_field (off := 0) (d := 1) rfl rfl (by kernel_rfl)) ?_
        simp only [Act.put, List.setIfInBounds_toArray, List.set_cons_zero, List.set_cons_succ]
        refine wpList_run (v := .slice (some ⟨g, 0, none⟩) m d) (wanted_none rfl) (exec_load1 rfl rfl (by kernel_rfl) (HB.out.cell 1)) ?_
        simp only [Act.put, List.setIfInBounds_toArray, List.set_cons_zero, List.set_cons_succ]
        refine wpList_run (v := .int .i64 (i : Int)) (wanted_none rfl) (exec_move rfl rfl) ?_
        simp only [Act.put, List.setIfInBounds_toArray, List.set_cons_zero, List.set_cons_succ]
        refine wpList_run (v := .pointer (some ⟨g, 0 + i * 3, none⟩)) (wanted_none rfl) (gx_iaddr (i := i) (sz := 3) rfl rfl rfl Try.underlying50 size_had HLT.out rfl) ?_
        simp only [Act.put, List.setIfInBounds_toArray, List.set_cons_zero, List.set_cons_succ]
        refine wpList_run (v := .pointer (some ⟨g, 0 + i * 3 + 0, none⟩)) (wanted_none rfl) (exec_field (off := 0 + i * 3) (d := 0) rfl rfl (by kernel_rfl)) ?_
        simp only [Act.put, List.setIfInBounds_toArray, List.set_cons_zero, List.set_cons_succ]
        refine wpList_run (v := .int .i64 x.1) (wanted_none rfl) (exec_load1 rfl rfl (by kernel_rfl) (HRG.out 0 _ rfl)) ?_
        simp only [Act.put, List.setIfInBounds_toArray, List.set_cons_zero, List.set_cons_succ]
        refine wpList_run (v := .int .i64 c0.1) (wanted_none rfl) (exec_move rfl rfl) ?_
        simp only [Act.put, List.setIfInBounds_toArray, List.set_cons_zero, List.set_cons_succ]
        refine wpList_run (v := .bool true) (wanted_none rfl) (ix_eql rfl rfl rfl (decide_eq_true HE.out)) ?_
        simp only [Act.put, List.setIfInBounds_toArray, List.set_cons_zero, List.set_cons_succ]
        refine wpList_run (v := .bool true) (wanted_none rfl) (exec_move rfl rfl) ?_
        simp only [Act.put, List.setIfInBounds_toArray, List.set_cons_zero, List.set_cons_succ]
        refine wpList_run (v := .pointer (some ⟨y, 0, none⟩)) rfl (exec_move rfl rfl) ?_
        simp only [Act.put, List.setIfInBounds_toArray, List.set_cons_zero, List.set_cons_succ]
        refine wpList_run (v := .pointer (some ⟨y, 0, none⟩)) rfl (exec_nil rfl rfl) ?_
        simp only [Act.put, List.setIfInBounds_toArray, List.set_cons_zero, List.set_cons_succ]
        refine wpList_run (v := .pointer (some ⟨y, 1, none⟩)) rfl (exec_field (off := 0) (d := 1) rfl rfl (by kernel_rfl)) ?_
        simp only [Act.put, List.setIfInBounds_toArray, List.set_cons_zero, List.set_cons_succ]
        refine wpList_run (v := .slice (some ⟨g, 0, none⟩) m d) rfl (exec_load1 rfl rfl (by kernel_rfl) (HB.out.cell 1)) ?_
        simp only [Act.put, List.setIfInBounds_toArray, List.set_cons_zero, List.set_cons_succ]
        refine wpList_run (v := .int .i64 (i : Int)) rfl (exec_move rfl rfl) ?_
        simp only [Act.put, List.setIfInBounds_toArray, List.set_cons_zero, List.set_cons_succ]
        refine wpList_run (v := .pointer (some ⟨g, 0 + i * 3, none⟩)) rfl (gx_iaddr (i := i) (sz := 3) rfl rfl rfl Try.underlying50 size_had HLT.out rfl) ?_
        simp only [Act.put, List.setIfInBounds_toArray, List.set_cons_zero, List.set_cons_succ]
        refine wpList_run (v := .pointer (some ⟨g, 0 + i * 3 + 2, none⟩)) rfl (exec_field (off := 0 + i * 3) (d := 2) rfl rfl (by kernel_rfl)) ?_
        simp only [Act.put, List.setIfInBounds_toArray, List.set_cons_zero, List.set_cons_succ]
        refine wpList_run (v := strV x.2.2) rfl (exec_load1 rfl rfl (by kernel_rfl) (HRG.out 2 _ rfl)) ?_
        simp only [Act.put, List.setIfInBounds_toArray, List.set_cons_zero, List.set_cons_succ]
        refine wpList_run (v := strV c0.2) rfl (exec_move rfl rfl) ?_
        simp only [Act.put, List.setIfInBounds_toArray, List.set_cons_zero, List.set_cons_succ]
        refine wpList_run (v := .bool false) rfl ((exec_seql rfl rfl rfl).trans (by rw [beq_eq_false_iff_ne.2 HP.out])) ?_
        simp only [Act.put, List.setIfInBounds_toArray, List.set_cons_zero, List.set_cons_succ]
        refine wpList_run (v := .bool false) (wanted_none rfl) (ix_pickT rfl rfl rfl) ?_
        simp only [Act.put, List.setIfInBounds_toArray, List.set_cons_zero, List.set_cons_succ]
        go_upto_region 3 with fail
        refine wp_region_lit ?_
        refine wpList_run (v := .int .i64 (i : Int)) (wanted_none rfl) (exec_move rfl rfl) ?_
        simp only [Act.put, List.setIfInBounds_toArray, List.set_cons_zero, List.set_cons_succ]
        refine wpList_run (v := .int .i64 ((i + 1 : Nat) : Int)) (wanted_none rfl) (ix_add rfl rfl rfl (by omega) (by omega)) ?_
        simp only [Act.put, List.setIfInBounds_toArray, List.set_cons_zero, List.set_cons_succ]
        refine wpList_run (v := .int .i64 ((i + 1 : Nat) : Int)) (wanted_none rfl) (gx_assign rfl rfl) ?_
        simp only [Act.put, List.setIfInBounds_toArray, List.set_cons_zero, List.set_cons_succ]
        go_wp2_with fail
        go_roundg (m - (i + 1))
        case measure => have := HGK.out; have := HLT.out; omega
        case rel => exact ⟨i + 1, rfl, by have := HLT.out; omega, HNO2.out, rfl⟩
    · have HNO2 := Lib.hid (show ∀ j z, j < i + 1 → L[j]? = some z → ¬ (z.1 = c0.1 ∧ z.2.2 = c0.2) from fun j z hj hz => by
        by_cases e : j = i
        · subst e
          rw [HX.out] at hz
          obtain rfl := Option.some.inj hz
          exact fun f => he f.1
        · exact HNO.out j z (by omega) hz)
      have HE := Lib.hid he
      clear he
      go_upto_region 4 with fail
      first
      | (rename_i K9 hK9; have HKC := Lib.hid hK9; clear hK9)
      | (rename_i K9 hK9 K8; have HKC := Lib.hid hK9; clear hK9)
      refine wp_region_lit ?_
      refine wpList_run (v := .pointer (some ⟨y, 0, none⟩)) (wanted_none rfl) (exec_move rfl rfl) ?_
      simp only [Act.put, List.setIfInBounds_toArray, List.set_cons_zero, List.set_cons_succ]
      refine wpList_run (v := .pointer (some ⟨y, 0, none⟩)) (wanted_none rfl) (exec_nil rfl rfl) ?_
      simp only [Act.put, List.setIfInBounds_toArray, List.set_cons_zero, List.set_cons_succ]
      refine wpList_run (v := .pointer (some ⟨y, 1, none⟩)) (wanted_none rfl) (exec_field (off := 0) (d := 1) rfl rfl (by kernel_rfl)) ?_
      simp only [Act.put, List.setIfInBounds_toArray, List.set_cons_zero, List.set_cons_succ]
      refine wpList_run (v := .slice (some ⟨g, 0, none⟩) m d) (wanted_none rfl) (exec_load1 rfl rfl (by kernel_rfl) (HB.out.cell 1)) ?_
      simp only [Act.put, List.setIfInBounds_toArray, List.set_cons_zero, List.set_cons_succ]
      refine wpList_run (v := .int .i64 (i : Int)) (wanted_none rfl) (exec_move rfl rfl) ?_
      simp only [Act.put, List.setIfInBounds_toArray, List.set_cons_zero, List.set_cons_succ]
      refine wpList_run (v := .pointer (some ⟨g, 0 + i * 3, none⟩)) (wanted_none rfl) (gx_iaddr (i := i) (sz := 3) rfl rfl rfl Try.underlying50 size_had HLT.out rfl) ?_
      simp only [Act.put, List.setIfInBounds_toArray, List.set_cons_zero, List.set_cons_succ]
      refine wpList_run (v := .pointer (some ⟨g, 0 + i * 3 + 0, none⟩)) (wanted_none rfl) (exec_field (off := 0 + i * 3) (d := 0) rfl rfl (by kernel_rfl)) ?_
      simp only [Act.put, List.setIfInBounds_toArray, List.set_cons_zero, List.set_cons_succ]
      refine wpList_run (v := .int .i64 x.1) (wanted_none rfl) (exec_load1 rfl rfl (by kernel_rfl) (HRG.out 0 _ rfl)) ?_
      simp only [Act.put, List.setIfInBounds_toArray, List.set_cons_zero, List.set_cons_succ]
      refine wpList_run (v := .int .i64 c0.1) (wanted_none rfl) (exec_move rfl rfl) ?_
      simp only [Act.put, List.setIfInBounds_toArray, List.set_cons_zero, List.set_cons_succ]
      refine wpList_run (v := .bool false) (wanted_none rfl) (ix_eql rfl rfl rfl (decide_eq_false HE.out)) ?_
      simp only [Act.put, List.setIfInBounds_toArray, List.set_cons_zero, List.set_cons_succ]
      refine wpList_run (v := .bool false) (wanted_none rfl) (exec_move rfl rfl) ?_
      simp only [Act.put, List.setIfInBounds_toArray, List.set_cons_zero, List.set_cons_succ]
      go_wp2_with fail
      refine HKC.out _ _ ?_
      clear HKC
      go_upto_region 3 with fail
      refine wp_region_lit ?_
      refine wpList_run (v := .int .i64 (i : Int)) (wanted_none rfl) (exec_move rfl rfl) ?_
      simp only [Act.put, List.setIfInBounds_toArray, List.set_cons_zero, List.set_cons_succ]
      refine wpList_run (v := .int .i64 ((i + 1 : Nat) : Int)) (wanted_none rfl) (ix_add rfl rfl rfl (by omega) (by omega)) ?_
      simp only [Act.put, List.setIfInBounds_toArray, List.set_cons_zero, List.set_cons_succ]
      refine wpList_run (v := .int .i64 ((i + 1 : Nat) : Int)) (wanted_none rfl) (gx_assign rfl rfl) ?_
      simp only [Act.put, List.setIfInBounds_toArray, List.set_cons_zero, List.set_cons_succ]
      go_wp2_with fail
      go_roundg (m - (i + 1))
      case measure => have := HGK.out; have := HLT.out; omega
      case rel => exact ⟨i + 1, rfl, by have := HLT.out; omega, HNO2.out, rfl⟩
  · obtain rfl : i = m := by omega
    have HF := Lib.hid (show Si.told L c0 = 0 from Si.told_no fun j x hj hx => HNO.out j x (by rw [HM.out] at hj; exact hj) hx)
    have y3 : ¬ (i : Int) < (i : Int) := by omega
    clear hlt
    go_upto_region 2 with fail
    refine wp_region_lit ?_
    refine wpList_run (v := .int .i64 (i : Int)) (wanted_none rfl) (exec_move rfl rfl) ?_
    simp only [Act.put, List.setIfInBounds_toArray, List.set_cons_zero, List.set_cons_succ]
    refine wpList_run (v := .pointer (some ⟨y, 0, none⟩)) (wanted_none rfl) (exec_move rfl rfl) ?_
    simp only [Act.put, List.setIfInBounds_toArray, List.set_cons_zero, List.set_cons_succ]
    refine wpList_run (v := .pointer (some ⟨y, 0, none⟩)) (wanted_none rfl) (exec_nil rfl rfl) ?_
    simp only [Act.put, List.setIfInBounds_toArray, List.set_cons_zero, List.set_cons_succ]
    refine wpList_run (v := .pointer (some ⟨y, 1, none⟩)) (wanted_none rfl) (exec_field (off := 0) (d := 1) rfl rfl (by kernel_rfl)) ?_
    simp only [Act.put, List.setIfInBounds_toArray, List.set_cons_zero, List.set_cons_succ]
    refine wpList_run (v := .slice B i d) (wanted_none rfl) (exec_load1 rfl rfl (by kernel_rfl) (HB.out.cell 1)) ?_
    simp only [Act.put, List.setIfInBounds_toArray, List.set_cons_zero, List.set_cons_succ]
    refine wpList_run (v := .int .i64 (i : Int)) (wanted_none rfl) (gx_len rfl rfl Try.underlying50) ?_
    simp only [Act.put, List.setIfInBounds_toArray, List.set_cons_zero, List.set_cons_succ]
    refine wpList_run (v := .bool false) (wanted_none rfl) (ix_lss rfl rfl rfl (decide_eq_false y3)) ?_
    simp only [Act.put, List.setIfInBounds_toArray, List.set_cons_zero, List.set_cons_succ]
    go_upto_region 6 with fail
    refine wp_region_lit ?_
    refine wpList_run (v := .int .i64 0) (wanted_none rfl) (gx_assign rfl rfl) ?_
    simp only [Act.put, List.setIfInBounds_toArray, List.set_cons_zero, List.set_cons_succ]
    go_wp2_with fail
    go_ret
    exact ⟨by rw [HTD.out, HF.out]; rfl, rfl⟩
set_option maxRecDepth 20000 in
set_option maxHeartbeats 4000000 in
theorem rReset_walk {w : World} {y n : Nat} {l : Lims} {h : Card → Int} (dd : RDesk w y l n h) :
    Calls Try.prog 13 #[.pointer (some ⟨y, 0, none⟩)] w fun e w' => e = .returned (.tuple #[]) ∧ RDesk w' y l 0 (fun _ => 0) ∧ Turn (only y) w w' := by
  obtain ⟨A, c, B, m, d, L, hb, hlr, hr, hm, hmn, htd⟩ := dd.blk
  obtain ⟨n2, hn2⟩ : ∃ x, x = l.length := ⟨_, rfl⟩
  rw [← hn2] at hb hlr
  have HB := Lib.hid hb
  have HR := Lib.hid hr
  have HM := Lib.hid hm
  have HLR := Lib.hid hlr
  have HDD := Lib.hid dd
  have HN2 := Lib.hid hn2
  clear dd hb hlr hr hm hmn htd hn2
  go_enter Try.func13, Try.ntmps13
  go_upto_region 0 with fail
  refine wp_region_lit ?_
  refine wpList_run (v := .pointer (some ⟨y, 0, none⟩)) (wanted_none rfl) (exec_move rfl rfl) ?_
  simp only [Act.put, List.setIfInBounds_toArray, List.set_cons_zero, List.set_cons_succ]
  refine wpList_run (v := .pointer (some ⟨y, 0, none⟩)) (wanted_none rfl) (exec_nil rfl rfl) ?_
  simp only [Act.put, List.setIfInBounds_toArray, List.set_cons_zero, List.set_cons_succ]
  refine wpList_run (v := .pointer (some ⟨y, 1, none⟩)) (wanted_none rfl) (exec_field (off := 0) (d := 1) rfl rfl (by kernel_rfl)) ?_
  simp only [Act.put, List.setIfInBounds_toArray, List.set_cons_zero, List.set_cons_succ]
  refine wpList_storeU 1 (.slice none 0 0) (wanted_none rfl) 50 _ _ rfl HB.out rfl rfl (by show 1 < 2; omega) ⟨rfl, rfl⟩ size_hads ?_
  intro w9 hb9 ht9
  have hs9 : ∀ k, k < w.heap.size → only y k → Siw w k := fun k _ e => by rw [show k = y from e]; exact HDD.out.siw
  have HFIN := Lib.hid (show RDesk w9 y l 0 (fun _ => 0) from ⟨⟨A, c, none, 0, 0, [], by rw [← HN2.out]; exact hb9, by rw [← HN2.out]; exact HLR.out.turn ht9 fun g hg e => siw_orw HLR.out (by decide) g hg (hs9 _ (HLR.out.lt hg).2 e), Orw.nil _ _ _ _, rfl, Nat.le_refl _, rfl⟩, HDD.out.okl, HDD.out.len, fun _ => ⟨by decide, by decide⟩⟩)
  have HT9 := Lib.hid ht9
  clear hb9 ht9 hs9
  simp only [Act.put, List.setIfInBounds_toArray, List.set_cons_zero, List.set_cons_succ]
  go_wp2_with fail
  go_end0
  exact ⟨rfl, HFIN.out, HT9.out⟩
set_option maxRecDepth 20000 in
set_option maxHeartbeats 4000000 in
theorem rClone_walk {w : World} {y n : Nat} {l : Lims} {h : Card → Int} (dd : RDesk w y l n h) :
    Calls Try.prog 10 #[.pointer (some ⟨y, 0, none⟩)] w fun e w' => ∃ p, e = .returned p ∧ MadeR w l n h p w' := by
  obtain ⟨A, c, B, m, d, L, hb, hlr, hr, hm, hmn, htd⟩ := dd.blk
  obtain ⟨n2, hn2⟩ : ∃ x, x = l.length := ⟨_, rfl⟩
  rw [← hn2] at hb hlr
  have HB := Lib.hid hb
  have HR := Lib.hid hr
  have HM := Lib.hid hm
  have HLR := Lib.hid hlr
  have HB0 := Lib.hid (show Blk w.drew y 52 #[.slice A n2 c, .slice B m d] from hb)
  have hbx := boxRd A B n2 c m d w.drew
  have hbn := Blk.new w.drew 52 #[.slice A n2 c, .slice B m d]
  have ht := ((Turn.refl nowhere w).drew).alloc (.cells #[.slice A n2 c, .slice B m d] 52)
  have hsz : w.heap.size ≤ w.drew.heap.size := Nat.le_refl _
  obtain ⟨t, htt⟩ : ∃ z, z = w.drew.heap.size := ⟨_, rfl⟩
  rw [← htt] at hbn hbx
  generalize w.drew.alloc (.cells #[.slice A n2 c, .slice B m d] 52) = w2 at *
  have HF := Lib.hid (show MadeR w l n h (.pointer (some ⟨t, 0, none⟩)) w2 from ⟨t, rfl, ⟨⟨A, c, B, m, d, L, by rw [← hn2]; exact hbn, by rw [← hn2]; exact hlr.still ht, hr.still ht, hm, hmn, htd⟩, dd.okl, dd.len, dd.okh⟩, by omega, ht⟩)
  have HBX := Lib.hid hbx
  have HB2 := Lib.hid (hb.turn ht fun e => e)
  clear dd hb hlr hr hm hmn htd hn2 hbx hbn ht htt hsz HR HLR HB
  go_enter Try.func10, Try.ntmps10
  go_upto_region 0 with fail
  refine wp_region_lit ?_
  refine wpList_run (v := .pointer none) (wanted_none rfl) (gx_assign rfl rfl) ?_
  simp only [Act.put, List.setIfInBounds_toArray, List.set_cons_zero, List.set_cons_succ]
  go_upto_region 1 with fail
  refine wp_region_alw (fun W => Blk W y 52 #[.slice A n2 c, .slice B m d]) (by kernel_rfl) ?_
  have hS0 := HB0.out
  refine alw_take (i := 0) (v := .pointer (some ⟨y, 0, none⟩)) rfl (by kernel_rfl) (by kernel_rfl) (fun _ _ _ h => h) (.inl ⟨by rfl, fun W hW => exec_move rfl rfl⟩) hS0 ?_
  simp only [Act.put, List.setIfInBounds_toArray, List.set_cons_zero, List.set_cons_succ]
  refine alw_take (i := 1) (v := .pointer (some ⟨y, 0, none⟩)) rfl (by kernel_rfl) (by kernel_rfl) (fun _ _ _ h => h) (.inl ⟨by rfl, fun W hW => exec_nil rfl rfl⟩) hS0 ?_
  simp only [Act.put, List.setIfInBounds_toArray, List.set_cons_zero, List.set_cons_succ]
  refine alw_take (i := 2) (v := .pointer (some ⟨y, 0, none⟩)) rfl (by kernel_rfl) (by kernel_rfl) (fun _ _ _ h => h) (.inl ⟨by rfl, fun W hW => exec_field (off := 0) (d := 0) rfl rfl (by kernel_rfl)⟩) hS0 ?_
  simp only [Act.put, List.setIfInBounds_toArray, List.set_cons_zero, List.set_cons_succ]
  refine alw_take (i := 3) (v := .slice A n2 c) rfl (by kernel_rfl) (by kernel_rfl) (fun _ _ _ h => h) (.inl ⟨by rfl, fun W hW => exec_load1 rfl rfl (by kernel_rfl) (hW.cell 0)⟩) hS0 ?_
  simp only [Act.put, List.setIfInBounds_toArray, List.set_cons_zero, List.set_cons_succ]
  refine alw_take (i := 4) (v := .pointer (some ⟨y, 0, none⟩)) rfl (by kernel_rfl) (by kernel_rfl) (fun _ _ _ h => h) (.inl ⟨by rfl, fun W hW => exec_move rfl rfl⟩) hS0 ?_
  simp only [Act.put, List.setIfInBounds_toArray, List.set_cons_zero, List.set_cons_succ]
  refine alw_take (i := 5) (v := .pointer (some ⟨y, 0, none⟩)) rfl (by kernel_rfl) (by kernel_rfl) (fun _ _ _ h => h) (.inl ⟨by rfl, fun W hW => exec_nil rfl rfl⟩) hS0 ?_
  simp only [Act.put, List.setIfInBounds_toArray, List.set_cons_zero, List.set_cons_succ]
  refine alw_take (i := 6) (v := .pointer (some ⟨y, 1, none⟩)) rfl (by kernel_rfl) (by kernel_rfl) (fun _ _ _ h => h) (.inl ⟨by rfl, fun W hW => exec_field (off := 0) (d := 1) rfl rfl (by kernel_rfl)⟩) hS0 ?_
  simp only [Act.put, List.setIfInBounds_toArray, List.set_cons_zero, List.set_cons_succ]
  refine alw_take (i := 7) (v := .slice B m d) rfl (by kernel_rfl) (by kernel_rfl) (fun _ _ _ h => h) (.inl ⟨by rfl, fun W hW => exec_load1 rfl rfl (by kernel_rfl) (hW.cell 1)⟩) hS0 ?_
  simp only [Act.put, List.setIfInBounds_toArray, List.set_cons_zero, List.set_cons_succ]
  refine alw_take (i := 8) (v := .agg #[.slice A n2 c, .slice B m d]) rfl (by kernel_rfl) (by kernel_rfl) (fun _ _ _ h => h) (.inl ⟨by rfl, fun W hW => gx_build2 rfl rfl rfl (buildRd _ _ _ _ _ _ _)⟩) hS0 ?_
  simp only [Act.put, List.setIfInBounds_toArray, List.set_cons_zero, List.set_cons_succ]
  clear hS0
  refine alw_step (i := 9) (by kernel_rfl) rfl rfl ?_
  intro K1 HK1
  refine wp_run (v := .pointer (some ⟨t, 0, none⟩)) (w' := w2) (gx_box rfl rfl HBX.out) ?_
  refine HK1.out _ _ ⟨HB2.out, ?_⟩
  clear HK1
  try simp only [Act.put, List.setIfInBounds_toArray, List.set_cons_zero, List.set_cons_succ]
  have hS0 := HB2.out
  refine alw_take (i := 10) (v := .pointer (some ⟨t, 0, none⟩)) rfl (by kernel_rfl) (by kernel_rfl) (fun _ _ _ h => h) (.inl ⟨by rfl, fun W hW => gx_assign rfl rfl⟩) hS0 ?_
  simp only [Act.put, List.setIfInBounds_toArray, List.set_cons_zero, List.set_cons_succ]
  refine alw_done rfl ?_
  refine NoPanic.normal ?_
  clear hS0
  try simp only [Act.put, List.setIfInBounds_toArray, List.set_cons_zero, List.set_cons_succ]
  go_wp2_with fail
  go_ret
  exact ⟨_, rfl, HF.out⟩
def RAskQ (w : World) (y : Nat) (l : Lims) (n : Nat) (h : Card → Int) (c : Card) (x : Int) (e : Ending) (w' : World) : Prop :=
  e = .returned (.int .i64 (Si.askE l h c x)) ∧ RDesk w' y l (n + 1) (Si.askH l h c x) ∧ Turn (only y) w w'
theorem rask_same {w : World} {y n : Nat} {l : Lims} {h : Card → Int} {c : Card} {x : Int} (d : RDesk w y l n h) {E : Int} (hE : Si.askE l h c x = E ∧ Si.askH l h c x = h) : RAskQ w y l n h c x (.returned (.int .i64 E)) w := by
  refine ⟨by rw [hE.1], ?_, Turn.refl _ _⟩
  rw [hE.2]
  exact d.mono (by omega)
set_option maxRecDepth 20000 in
set_option maxHeartbeats 4000000 in
theorem rAsk_walk {w : World} {y n : Nat} {l : Lims} {h : Card → Int} (dd : RDesk w y l n h) (hn : n ≤ 1000000) {mm q : Int} {pan : List UInt8} :
    Calls Try.prog 15 #[.pointer (some ⟨y, 0, none⟩), .int .i64 mm, strV pan, .int .i64 q] w (RAskQ w y l n h (mm, pan) q) := by
  obtain ⟨A, c, B, m, d, L, hb, hlr, hr, hm, hmn, htd⟩ := dd.blk
  obtain ⟨n2, hn2⟩ : ∃ x, x = l.length := ⟨_, rfl⟩
  rw [← hn2] at hb hlr
  have HB := Lib.hid hb
  have HR := Lib.hid hr
  have HM := Lib.hid hm
  have HLR := Lib.hid hlr
  have HD := Lib.hid dd
  have HL2 := Lib.hid hn2
  have HN := Lib.hid hn
  have HMN := Lib.hid hmn
  have HTD := Lib.hid htd
  have hl6 := dd.len.2
  have y2 : (n2 : Int) ≤ 6 := by omega
  have ym : (m : Int) ≤ 1000000 := by omega
  clear dd hb hlr hr hm hmn htd hn hn2 hl6
  go_enter Try.func15, Try.ntmps15
  go_upto_region 0 with fail
  refine wp_region_lit ?_
  refine wpList_run (v := .int .i64 0) (wanted_none rfl) (gx_assign rfl rfl) ?_
  simp only [Act.put, List.setIfInBounds_toArray, List.set_cons_zero, List.set_cons_succ]
  by_cases h0 : mm < 0
  · go_upto_region 1 with fail
    first
    | (rename_i K9 hK9; have HKC := Lib.hid hK9; clear hK9)
    | (rename_i K9 hK9 K8; have HKC := Lib.hid hK9; clear hK9)
    refine wp_region_lit ?_
    refine wpList_run (v := .int .i64 mm) (wanted_none rfl) (exec_move rfl rfl) ?_
    simp only [Act.put, List.setIfInBounds_toArray, List.set_cons_zero, List.set_cons_succ]
    refine wpList_run (v := .bool true) (wanted_none rfl) (ix_lss rfl rfl rfl (decide_eq_true h0)) ?_
    simp only [Act.put, List.setIfInBounds_toArray, List.set_cons_zero, List.set_cons_succ]
    refine wpList_run (v := .bool true) (wanted_none rfl) (exec_move rfl rfl) ?_
    simp only [Act.put, List.setIfInBounds_toArray, List.set_cons_zero, List.set_cons_succ]
    go_wp2_with fail
    refine HKC.out _ _ ?_
    clear HKC
    go_upto_region 2 with fail
    refine wp_region_lit ?_
    refine wpList_run (v := .int .i64 130) (wanted_none rfl) (gx_assign rfl rfl) ?_
    simp only [Act.put, List.setIfInBounds_toArray, List.set_cons_zero, List.set_cons_succ]
    go_wp2_with fail
    go_ret
    exact rask_same HD.out (Si.ask_bad1 (.inl h0))
  · obtain ⟨k, hk⟩ : ∃ k : Nat, mm = (k : Int) := ⟨mm.toNat, by omega⟩
    subst hk
    clear h0
    have y0 : 0 ≤ (k : Int) := by omega
    by_cases h1 : n2 ≤ k
    · have y1 : (n2 : Int) ≤ (k : Int) := by omega
      go_upto_region 1 with fail
      refine wp_region_lit ?_
      refine wpList_run (v := .int .i64 (k : Int)) (wanted_none rfl) (exec_move rfl rfl) ?_
      simp only [Act.put, List.setIfInBounds_toArray, List.set_cons_zero, List.set_cons_succ]
      refine wpList_run (v := .bool false) (wanted_none rfl) (ix_lss rfl rfl rfl (decide_eq_false (by omega))) ?_
      simp only [Act.put, List.setIfInBounds_toArray, List.set_cons_zero, List.set_cons_succ]
      refine wpList_run (v := .bool false) (wanted_none rfl) (exec_move rfl rfl) ?_
      simp only [Act.put, List.setIfInBounds_toArray, List.set_cons_zero, List.set_cons_succ]
      refine wpList_run (v := .int .i64 (k : Int)) rfl (exec_move rfl rfl) ?_
      simp only [Act.put, List.setIfInBounds_toArray, List.set_cons_zero, List.set_cons_succ]
      refine wpList_run (v := .pointer (some ⟨y, 0, none⟩)) rfl (exec_move rfl rfl) ?_
      simp only [Act.put, List.setIfInBounds_toArray, List.set_cons_zero, List.set_cons_succ]
      refine wpList_run (v := .pointer (some ⟨y, 0, none⟩)) rfl (exec_nil rfl rfl) ?_
      simp only [Act.put, List.setIfInBounds_toArray, List.set_cons_zero, List.set_cons_succ]
      refine wpList_run (v := .pointer (some ⟨y, 0, none⟩)) rfl (exec_field (off := 0) (d := 0) rfl rfl (by kernel_rfl)) ?_
      simp only [Act.put, List.setIfInBounds_toArray, List.set_cons_zero, List.set_cons_succ]
      refine wpList_run (v := .slice A n2 c) rfl (exec_load1 rfl rfl (by kernel_rfl) (HB.out.cell 0)) ?_
      simp only [Act.put, List.setIfInBounds_toArray, List.set_cons_zero, List.set_cons_succ]
      refine wpList_run (v := .int .i64 (n2 : Int)) rfl (gx_len rfl rfl Try.underlying22) ?_
      simp only [Act.put, List.setIfInBounds_toArray, List.set_cons_zero, List.set_cons_succ]
      refine wpList_run (v := .bool true) rfl (ix_geq rfl rfl rfl (decide_eq_true y1)) ?_
      simp only [Act.put, List.setIfInBounds_toArray, List.set_cons_zero, List.set_cons_succ]
      refine wpList_run (v := .bool true) (wanted_none rfl) (ix_pickF rfl rfl rfl) ?_
      simp only [Act.put, List.setIfInBounds_toArray, List.set_cons_zero, List.set_cons_succ]
      go_upto_region 2 with fail
      refine wp_region_lit ?_
      refine wpList_run (v := .int .i64 130) (wanted_none rfl) (gx_assign rfl rfl) ?_
      simp only [Act.put, List.setIfInBounds_toArray, List.set_cons_zero, List.set_cons_succ]
      go_wp2_with fail
      go_ret
      exact rask_same HD.out (Si.ask_bad1 (.inr (by rw [← HL2.out]; exact y1)))
    · have y1 : (k : Int) < (n2 : Int) := by omega
      have HI := Lib.hid (show k < n2 from by omega)
      have HBAD := Lib.hid (show ¬ ((k : Int) < 0 ∨ (l.length : Int) ≤ (k : Int)) from by rw [← HL2.out]; omega)
      clear h1
      go_upto_region 1 with fail
      refine wp_region_lit ?_
      refine wpList_run (v := .int .i64 (k : Int)) (wanted_none rfl) (exec_move rfl rfl) ?_
      simp only [Act.put, List.setIfInBounds_toArray, List.set_cons_zero, List.set_cons_succ]
      refine wpList_run (v := .bool false) (wanted_none rfl) (ix_lss rfl rfl rfl (decide_eq_false (by omega))) ?_
      simp only [Act.put, List.setIfInBounds_toArray, List.set_cons_zero, List.set_cons_succ]
      refine wpList_run (v := .bool false) (wanted_none rfl) (exec_move rfl rfl) ?_
      simp only [Act.put, List.setIfInBounds_toArray, List.set_cons_zero, List.set_cons_succ]
      refine wpList_run (v := .int .i64 (k : Int)) rfl (exec_move rfl rfl) ?_
      simp only [Act.put, List.setIfInBounds_toArray, List.set_cons_zero, List.set_cons_succ]
      refine wpList_run (v := .pointer (some ⟨y, 0, none⟩)) rfl (exec_move rfl rfl) ?_
      simp only [Act.put, List.setIfInBounds_toArray, List.set_cons_zero, List.set_cons_succ]
      refine wpList_run (v := .pointer (some ⟨y, 0, none⟩)) rfl (exec_nil rfl rfl) ?_
      simp only [Act.put, List.setIfInBounds_toArray, List.set_cons_zero, List.set_cons_succ]
      refine wpList_run (v := .pointer (some ⟨y, 0, none⟩)) rfl (exec_field (off := 0) (d := 0) rfl rfl (by kernel_rfl)) ?_
      simp only [Act.put, List.setIfInBounds_toArray, List.set_cons_zero, List.set_cons_succ]
      refine wpList_run (v := .slice A n2 c) rfl (exec_load1 rfl rfl (by kernel_rfl) (HB.out.cell 0)) ?_
      simp only [Act.put, List.setIfInBounds_toArray, List.set_cons_zero, List.set_cons_succ]
      refine wpList_run (v := .int .i64 (n2 : Int)) rfl (gx_len rfl rfl Try.underlying22) ?_
      simp only [Act.put, List.setIfInBounds_toArray, List.set_cons_zero, List.set_cons_succ]
      refine wpList_run (v := .bool false) rfl (ix_geq rfl rfl rfl (decide_eq_false (by omega))) ?_
      simp only [Act.put, List.setIfInBounds_toArray, List.set_cons_zero, List.set_cons_succ]
      refine wpList_run (v := .bool false) (wanted_none rfl) (ix_pickF rfl rfl rfl) ?_
      simp only [Act.put, List.setIfInBounds_toArray, List.set_cons_zero, List.set_cons_succ]
      by_cases q0 : q < 0
      · go_upto_region 3 with fail
        first
        | (rename_i K9 hK9; have HKC := Lib.hid hK9; clear hK9)
        | (rename_i K9 hK9 K8; have HKC := Lib.hid hK9; clear hK9)
        refine wp_region_lit ?_
        refine wpList_run (v := .int .i64 q) (wanted_none rfl) (exec_move rfl rfl) ?_
        simp only [Act.put, List.setIfInBounds_toArray, List.set_cons_zero, List.set_cons_succ]
        refine wpList_run (v := .bool true) (wanted_none rfl) (ix_lss rfl rfl rfl (decide_eq_true q0)) ?_
        simp only [Act.put, List.setIfInBounds_toArray, List.set_cons_zero, List.set_cons_succ]
        refine wpList_run (v := .bool true) (wanted_none rfl) (exec_move rfl rfl) ?_
        simp only [Act.put, List.setIfInBounds_toArray, List.set_cons_zero, List.set_cons_succ]
        go_wp2_with fail
        refine HKC.out _ _ ?_
        clear HKC
        go_upto_region 4 with fail
        refine wp_region_lit ?_
        refine wpList_run (v := .int .i64 100) (wanted_none rfl) (gx_assign rfl rfl) ?_
        simp only [Act.put, List.setIfInBounds_toArray, List.set_cons_zero, List.set_cons_succ]
        go_wp2_with fail
        go_ret
        exact rask_same HD.out (Si.ask_bad2 HBAD.out fun e => by have := e.1; omega)
      · by_cases q1 : 999999999999 < q
        · go_upto_region 3 with fail
          refine wp_region_lit ?_
          refine wpList_run (v := .int .i64 q) (wanted_none rfl) (exec_move rfl rfl) ?_
          simp only [Act.put, List.setIfInBounds_toArray, List.set_cons_zero, List.set_cons_succ]
          refine wpList_run (v := .bool false) (wanted_none rfl) (ix_lss rfl rfl rfl (decide_eq_false q0)) ?_
          simp only [Act.put, List.setIfInBounds_toArray, List.set_cons_zero, List.set_cons_succ]
          refine wpList_run (v := .bool false) (wanted_none rfl) (exec_move rfl rfl) ?_
          simp only [Act.put, List.setIfInBounds_toArray, List.set_cons_zero, List.set_cons_succ]
          refine wpList_run (v := .int .i64 q) rfl (exec_move rfl rfl) ?_
          simp only [Act.put, List.setIfInBounds_toArray, List.set_cons_zero, List.set_cons_succ]
          refine wpList_run (v := .bool true) rfl (ix_gtr rfl rfl rfl (decide_eq_true q1)) ?_
          simp only [Act.put, List.setIfInBounds_toArray, List.set_cons_zero, List.set_cons_succ]
          refine wpList_run (v := .bool true) (wanted_none rfl) (ix_pickF rfl rfl rfl) ?_
          simp only [Act.put, List.setIfInBounds_toArray, List.set_cons_zero, List.set_cons_succ]
          go_upto_region 4 with fail
          refine wp_region_lit ?_
          refine wpList_run (v := .int .i64 100) (wanted_none rfl) (gx_assign rfl rfl) ?_
          simp only [Act.put, List.setIfInBounds_toArray, List.set_cons_zero, List.set_cons_succ]
          go_wp2_with fail
          go_ret
          exact rask_same HD.out (Si.ask_bad2 HBAD.out fun e => by have := e.2; omega)
        · go_upto_region 3 with fail
          refine wp_region_lit ?_
          refine wpList_run (v := .int .i64 q) (wanted_none rfl) (exec_move rfl rfl) ?_
          simp only [Act.put, List.setIfInBounds_toArray, List.set_cons_zero, List.set_cons_succ]
          refine wpList_run (v := .bool false) (wanted_none rfl) (ix_lss rfl rfl rfl (decide_eq_false q0)) ?_
          simp only [Act.put, List.setIfInBounds_toArray, List.set_cons_zero, List.set_cons_succ]
          refine wpList_run (v := .bool false) (wanted_none rfl) (exec_move rfl rfl) ?_
          simp only [Act.put, List.setIfInBounds_toArray, List.set_cons_zero, List.set_cons_succ]
          refine wpList_run (v := .int .i64 q) rfl (exec_move rfl rfl) ?_
          simp only [Act.put, List.setIfInBounds_toArray, List.set_cons_zero, List.set_cons_succ]
          refine wpList_run (v := .bool false) rfl (ix_gtr rfl rfl rfl (decide_eq_false q1)) ?_
          simp only [Act.put, List.setIfInBounds_toArray, List.set_cons_zero, List.set_cons_succ]
          refine wpList_run (v := .bool false) (wanted_none rfl) (ix_pickF rfl rfl rfl) ?_
          simp only [Act.put, List.setIfInBounds_toArray, List.set_cons_zero, List.set_cons_succ]
          have HX := Lib.hid (show Si.okA q from ⟨by omega, by omega⟩)
          have x0 : 0 ≤ q := by omega
          have x1 : q ≤ 999999999999 := by omega
          clear q0 q1
          obtain ⟨s, hs⟩ : ∃ s, l[k]? = some s := ⟨l[k]'(by rw [← HL2.out]; exact HI.out), List.getElem?_eq_getElem (by rw [← HL2.out]; exact HI.out)⟩
          have HS := Lib.hid hs
          obtain ⟨g, q2, e, _⟩ := HLR.out.some_ (by rw [List.length_map, ← HL2.out]; have := HI.out; omega)
          injection e with e1 e2 e3
          subst e1
          clear e2 e3
          have HRG := Lib.hid (show w.rangeAt g (0 + k * 2) (limC s) from HLR.out.el0 (by rw [List.getElem?_map, hs]; rfl))
          obtain ⟨hd, hhd⟩ : ∃ z, z = h ((k : Int), pan) := ⟨_, rfl⟩
          have HHD := Lib.hid hhd
          have hok := HD.out.okh ((k : Int), pan)
          rw [← hhd] at hok
          have HOH := Lib.hid hok
          have z0 : 0 ≤ hd := hok.1
          have z1 : hd ≤ 999999999999 := hok.2
          have HHW := Lib.hid (rHad_walk HD.out HN.out ((k : Int), pan))
          rw [← hhd] at HHW
          clear hhd hok hs
          go_upto_region 5 with fail
          refine wp_region_lit ?_
          refine wpList_run (v := .pointer (some ⟨y, 0, none⟩)) (wanted_none rfl) (exec_move rfl rfl) ?_
          simp only [Act.put, List.setIfInBounds_toArray, List.set_cons_zero, List.set_cons_succ]
          refine wpList_run (v := .int .i64 (k : Int)) (wanted_none rfl) (exec_move rfl rfl) ?_
          simp only [Act.put, List.setIfInBounds_toArray, List.set_cons_zero, List.set_cons_succ]
          refine wpList_run (v := strV pan) (wanted_none rfl) (exec_move rfl rfl) ?_
          simp only [Act.put, List.setIfInBounds_toArray, List.set_cons_zero, List.set_cons_succ]
          refine wpList_op (wanted_none rfl) fun K9 HK9 => ?_
          go_wp2_with fail
          refine (HHW.out).mono ?_
          rintro e w ⟨rfl, rfl⟩
          refine HK9.out _ _ ?_
          clear HK9
          try simp only [Act.put, List.setIfInBounds_toArray, List.set_cons_zero, List.set_cons_succ]
          obtain ⟨sm, hsm⟩ : ∃ z, z = hd + q := ⟨_, rfl⟩
          have HSM := Lib.hid hsm
          have z2 : sm ≤ 1999999999998 := by omega
          clear hsm
          refine wpList_run (v := .int .i64 q) (wanted_none rfl) (exec_move rfl rfl) ?_
          simp only [Act.put, List.setIfInBounds_toArray, List.set_cons_zero, List.set_cons_succ]
          refine wpList_run (v := .int .i64 sm) (wanted_none rfl) (ix_add rfl rfl rfl HSM.out.symm ⟨by have := HSM.out; omega, by omega⟩) ?_
          simp only [Act.put, List.setIfInBounds_toArray, List.set_cons_zero, List.set_cons_succ]
          refine wpList_run (v := .int .i64 sm) (wanted_none rfl) (gx_assign rfl rfl) ?_
          simp only [Act.put, List.setIfInBounds_toArray, List.set_cons_zero, List.set_cons_succ]
          by_cases h2 : s.1 < q
          · go_upto_region 6 with fail
            first
            | (rename_i K9 hK9; have HKC := Lib.hid hK9; clear hK9)
            | (rename_i K9 hK9 K8; have HKC := Lib.hid hK9; clear hK9)
            refine wp_region_lit ?_
            refine wpList_run (v := .int .i64 q) (wanted_none rfl) (exec_move rfl rfl) ?_
            simp only [Act.put, List.setIfInBounds_toArray, List.set_cons_zero, List.set_cons_succ]
            refine wpList_run (v := .pointer (some ⟨y, 0, none⟩)) (wanted_none rfl) (exec_move rfl rfl) ?_
            simp only [Act.put, List.setIfInBounds_toArray, List.set_cons_zero, List.set_cons_succ]
            refine wpList_run (v := .pointer (some ⟨y, 0, none⟩)) (wanted_none rfl) (exec_nil rfl rfl) ?_
            simp only [Act.put, List.setIfInBounds_toArray, List.set_cons_zero, List.set_cons_succ]
            refine wpList_run (v := .pointer (some ⟨y, 0, none⟩)) (wanted_none rfl) (exec_field (off := 0) (d := 0) rfl rfl (by kernel_rfl)) ?_
            simp only [Act.put, List.setIfInBounds_toArray, List.set_cons_zero, List.set_cons_succ]
            refine wpList_run (v := .slice (some ⟨g, 0, none⟩) n2 c) (wanted_none rfl) (exec_load1 rfl rfl (by kernel_rfl) (HB.out.cell 0)) ?_
            simp only [Act.put, List.setIfInBounds_toArray, List.set_cons_zero, List.set_cons_succ]
            refine wpList_run (v := .int .i64 (k : Int)) (wanted_none rfl) (exec_move rfl rfl) ?_
            simp only [Act.put, List.setIfInBounds_toArray, List.set_cons_zero, List.set_cons_succ]
            refine wpList_run (v := .pointer (some ⟨g, 0 + k * 2, none⟩)) (wanted_none rfl) (gx_iaddr (i := k) (sz := 2) rfl rfl rfl Try.underlying22 size_st HI.out rfl) ?_
            simp only [Act.put, List.setIfInBounds_toArray, List.set_cons_zero, List.set_cons_succ]
            refine wpList_run (v := .pointer (some ⟨g, 0 + k * 2 + 0, none⟩)) (wanted_none rfl) (exec_field (off := 0 + k * 2) (d := 0) rfl rfl (by kernel_rfl)) ?_
            simp only [Act.put, List.setIfInBounds_toArray, List.set_cons_zero, List.set_cons_succ]
            refine wpList_run (v := .int .i64 s.1) (wanted_none rfl) (exec_load1 rfl rfl (by kernel_rfl) (HRG.out 0 _ rfl)) ?_
            simp only [Act.put, List.setIfInBounds_toArray, List.set_cons_zero, List.set_cons_succ]
            refine wpList_run (v := .bool true) (wanted_none rfl) (ix_gtr rfl rfl rfl (decide_eq_true h2)) ?_
            simp only [Act.put, List.setIfInBounds_toArray, List.set_cons_zero, List.set_cons_succ]
            refine wpList_run (v := .bool true) (wanted_none rfl) (exec_move rfl rfl) ?_
            simp only [Act.put, List.setIfInBounds_toArray, List.set_cons_zero, List.set_cons_succ]
            go_wp2_with fail
            refine HKC.out _ _ ?_
            clear HKC
            go_upto_region 7 with fail
            refine wp_region_lit ?_
            refine wpList_run (v := .int .i64 150) (wanted_none rfl) (gx_assign rfl rfl) ?_
            simp only [Act.put, List.setIfInBounds_toArray, List.set_cons_zero, List.set_cons_succ]
            go_wp2_with fail
            go_ret
            exact rask_same HD.out (Si.ask_bad3 HBAD.out HX.out (s := s) (by simpa using HS.out) (.inl h2))
          · by_cases h3 : s.2 < sm
            · go_upto_region 6 with fail
              refine wp_region_lit ?_
              refine wpList_run (v := .int .i64 q) (wanted_none rfl) (exec_move rfl rfl) ?_
              simp only [Act.put, List.setIfInBounds_toArray, List.set_cons_zero, List.set_cons_succ]
              refine wpList_run (v := .pointer (some ⟨y, 0, none⟩)) (wanted_none rfl) (exec_move rfl rfl) ?_
              simp only [Act.put, List.setIfInBounds_toArray, List.set_cons_zero, List.set_cons_succ]
              refine wpList_run (v := .pointer (some ⟨y, 0, none⟩)) (wanted_none rfl) (exec_nil rfl rfl) ?_
              simp only [Act.put, List.setIfInBounds_toArray, List.set_cons_zero, List.set_cons_succ]
              refine wpList_run (v := .pointer (some ⟨y, 0, none⟩)) (wanted_none rfl) (exec_field (off := 0) (d := 0) rfl rfl (by kernel_rfl)) ?_
              simp only [Act.put, List.setIfInBounds_toArray, List.set_cons_zero, List.set_cons_succ]
              refine wpList_run (v := .slice (some ⟨g, 0, none⟩) n2 c) (wanted_none rfl) (exec_load1 rfl rfl (by kernel_rfl) (HB.out.cell 0)) ?_
              simp only [Act.put, List.setIfInBounds_toArray, List.set_cons_zero, List.set_cons_succ]
              refine wpList_run (v := .int .i64 (k : Int)) (wanted_none rfl) (exec_move rfl rfl) ?_
              simp only [Act.put, List.setIfInBounds_toArray, List.set_cons_zero, List.set_cons_succ]
              refine wpList_run (v := .pointer (some ⟨g, 0 + k * 2, none⟩)) (wanted_none rfl) (gx_iaddr (i := k) (sz := 2) rfl rfl rfl Try.underlying22 size_st HI.out rfl) ?_
              simp only [Act.put, List.setIfInBounds_toArray, List.set_cons_zero, List.set_cons_succ]
              refine wpList_run (v := .pointer (some ⟨g, 0 + k * 2 + 0, none⟩)) (wanted_none rfl) (exec_field (off := 0 + k * 2) (d := 0) rfl rfl (by kernel_rfl)) ?_
              simp only [Act.put, List.setIfInBounds_toArray, List.set_cons_zero, List.set_cons_succ]
              refine wpList_run (v := .int .i64 s.1) (wanted_none rfl) (exec_load1 rfl rfl (by kernel_rfl) (HRG.out 0 _ rfl)) ?_
              simp only [Act.put, List.setIfInBounds_toArray, List.set_cons_zero, List.set_cons_succ]
              refine wpList_run (v := .bool false) (wanted_none rfl) (ix_gtr rfl rfl rfl (decide_eq_false h2)) ?_
              simp only [Act.put, List.setIfInBounds_toArray, List.set_cons_zero, List.set_cons_succ]
              refine wpList_run (v := .bool false) (wanted_none rfl) (exec_move rfl rfl) ?_
              simp only [Act.put, List.setIfInBounds_toArray, List.set_cons_zero, List.set_cons_succ]
              refine wpList_run (v := .int .i64 sm) rfl (exec_move rfl rfl) ?_
              simp only [Act.put, List.setIfInBounds_toArray, List.set_cons_zero, List.set_cons_succ]
              refine wpList_run (v := .pointer (some ⟨y, 0, none⟩)) rfl (exec_move rfl rfl) ?_
              simp only [Act.put, List.setIfInBounds_toArray, List.set_cons_zero, List.set_cons_succ]
              refine wpList_run (v := .pointer (some ⟨y, 0, none⟩)) rfl (exec_nil rfl rfl) ?_
              simp only [Act.put, List.setIfInBounds_toArray, List.set_cons_zero, List.set_cons_succ]
              refine wpList_run (v := .pointer (some ⟨y, 0, none⟩)) rfl (exec_field (off := 0) (d := 0) rfl rfl (by kernel_rfl)) ?_
              simp only [Act.put, List.setIfInBounds_toArray, List.set_cons_zero, List.set_cons_succ]
              refine wpList_run (v := .slice (some ⟨g, 0, none⟩) n2 c) rfl (exec_load1 rfl rfl (by kernel_rfl) (HB.out.cell 0)) ?_
              simp only [Act.put, List.setIfInBounds_toArray, List.set_cons_zero, List.set_cons_succ]
              refine wpList_run (v := .int .i64 (k : Int)) rfl (exec_move rfl rfl) ?_
              simp only [Act.put, List.setIfInBounds_toArray, List.set_cons_zero, List.set_cons_succ]
              refine wpList_run (v := .pointer (some ⟨g, 0 + k * 2, none⟩)) rfl (gx_iaddr (i := k) (sz := 2) rfl rfl rfl Try.underlying22 size_st HI.out rfl) ?_
              simp only [Act.put, List.setIfInBounds_toArray, List.set_cons_zero, List.set_cons_succ]
              refine wpList_run (v := .pointer (some ⟨g, 0 + k * 2 + 1, none⟩)) rfl (exec_field (off := 0 + k * 2) (d := 1) rfl rfl (by kernel_rfl)) ?_
              simp only [Act.put, List.setIfInBounds_toArray, List.set_cons_zero, List.set_cons_succ]
              refine wpList_run (v := .int .i64 s.2) rfl (exec_load1 rfl rfl (by kernel_rfl) (HRG.out 1 _ rfl)) ?_
              simp only [Act.put, List.setIfInBounds_toArray, List.set_cons_zero, List.set_cons_succ]
              refine wpList_run (v := .bool true) rfl (ix_gtr rfl rfl rfl (decide_eq_true h3)) ?_
              simp only [Act.put, List.setIfInBounds_toArray, List.set_cons_zero, List.set_cons_succ]
              refine wpList_run (v := .bool true) (wanted_none rfl) (ix_pickF rfl rfl rfl) ?_
              simp only [Act.put, List.setIfInBounds_toArray, List.set_cons_zero, List.set_cons_succ]
              go_upto_region 7 with fail
              refine wp_region_lit ?_
              refine wpList_run (v := .int .i64 150) (wanted_none rfl) (gx_assign rfl rfl) ?_
              simp only [Act.put, List.setIfInBounds_toArray, List.set_cons_zero, List.set_cons_succ]
              go_wp2_with fail
              go_ret
              exact rask_same HD.out (Si.ask_bad3 HBAD.out HX.out (s := s) (by simpa using HS.out) (.inr (by rw [← HHD.out, ← HSM.out]; exact h3)))
            · have HOKS := Lib.hid (show Si.okA sm from by
                have h1 := (HD.out.okl s (List.mem_of_getElem? HS.out)).2.2
                rw [HSM.out] at h3 ⊢
                exact ⟨by omega, by omega⟩)
              have HASK := Lib.hid (Si.ask_ok (h := h) (c := ((k : Int), pan)) HBAD.out HX.out (s := s) (by simpa using HS.out) (by rw [← HHD.out, ← HSM.out]; omega))
              go_upto_region 6 with fail
              refine wp_region_lit ?_
              refine wpList_run (v := .int .i64 q) (wanted_none rfl) (exec_move rfl rfl) ?_
              simp only [Act.put, List.setIfInBounds_toArray, List.set_cons_zero, List.set_cons_succ]
              refine wpList_run (v := .pointer (some ⟨y, 0, none⟩)) (wanted_none rfl) (exec_move rfl rfl) ?_
              simp only [Act.put, List.setIfInBounds_toArray, List.set_cons_zero, List.set_cons_succ]
              refine wpList_run (v := .pointer (some ⟨y, 0, none⟩)) (wanted_none rfl) (exec_nil rfl rfl) ?_
              simp only [Act.put, List.setIfInBounds_toArray, List.set_cons_zero, List.set_cons_succ]
              refine wpList_run (v := .pointer (some ⟨y, 0, none⟩)) (wanted_none rfl) (exec_field (off := 0) (d := 0) rfl rfl (by kernel_rfl)) ?_
              simp only [Act.put, List.setIfInBounds_toArray, List.set_cons_zero, List.set_cons_succ]
              refine wpList_run (v := .slice (some ⟨g, 0, none⟩) n2 c) (wanted_none rfl) (exec_load1 rfl rfl (by kernel_rfl) (HB.out.cell 0)) ?_
              simp only [Act.put, List.setIfInBounds_toArray, List.set_cons_zero, List.set_cons_succ]
              refine wpList_run (v := .int .i64 (k : Int)) (wanted_none rfl) (exec_move rfl rfl) ?_
              simp only [Act.put, List.setIfInBounds_toArray, List.set_cons_zero, List.set_cons_succ]
              refine wpList_run (v := .pointer (some ⟨g, 0 + k * 2, none⟩)) (wanted_none rfl) (gx_iaddr (i := k) (sz := 2) rfl rfl rfl Try.underlying22 size_st HI.out rfl) ?_
              simp only [Act.put, List.setIfInBounds_toArray, List.set_cons_zero, List.set_cons_succ]
              refine wpList_run (v := .pointer (some ⟨g, 0 + k * 2 + 0, none⟩)) (wanted_none rfl) (exec_field (off := 0 + k * 2) (d := 0) rfl rfl (by kernel_rfl)) ?_
              simp only [Act.put, List.setIfInBounds_toArray, List.set_cons_zero, List.set_cons_succ]
              refine wpList_run (v := .int .i64 s.1) (wanted_none rfl) (exec_load1 rfl rfl (by kernel_rfl) (HRG.out 0 _ rfl)) ?_
              simp only [Act.put, List.setIfInBounds_toArray, List.set_cons_zero, List.set_cons_succ]
              refine wpList_run (v := .bool false) (wanted_none rfl) (ix_gtr rfl rfl rfl (decide_eq_false h2)) ?_
              simp only [Act.put, List.setIfInBounds_toArray, List.set_cons_zero, List.set_cons_succ]
              refine wpList_run (v := .bool false) (wanted_none rfl) (exec_move rfl rfl) ?_
              simp only [Act.put, List.setIfInBounds_toArray, List.set_cons_zero, List.set_cons_succ]
              refine wpList_run (v := .int .i64 sm) rfl (exec_move rfl rfl) ?_
              simp only [Act.put, List.setIfInBounds_toArray, List.set_cons_zero, List.set_cons_succ]
              refine wpList_run (v := .pointer (some ⟨y, 0, none⟩)) rfl (exec_move rfl rfl) ?_
              simp only [Act.put, List.setIfInBounds_toArray, List.set_cons_zero, List.set_cons_succ]
              refine wpList_run (v := .pointer (some ⟨y, 0, none⟩)) rfl (exec_nil rfl rfl) ?_
              simp only [Act.put, List.setIfInBounds_toArray, List.set_cons_zero, List.set_cons_succ]
              refine wpList_run (v := .pointer (some ⟨y, 0, none⟩)) rfl (exec_field (off := 0) (d := 0) rfl rfl (by kernel_rfl)) ?_
              simp only [Act.put, List.setIfInBounds_toArray, List.set_cons_zero, List.set_cons_succ]
              refine wpList_run (v := .slice (some ⟨g, 0, none⟩) n2 c) rfl (exec_load1 rfl rfl (by kernel_rfl) (HB.out.cell 0)) ?_
              simp only [Act.put, List.setIfInBounds_toArray, List.set_cons_zero, List.set_cons_succ]
              refine wpList_run (v := .int .i64 (k : Int)) rfl (exec_move rfl rfl) ?_
              simp only [Act.put, List.setIfInBounds_toArray, List.set_cons_zero, List.set_cons_succ]
              refine wpList_run (v := .pointer (some ⟨g, 0 + k * 2, none⟩)) rfl (gx_iaddr (i := k) (sz := 2) rfl rfl rfl Try.underlying22 size_st HI.out rfl) ?_
              simp only [Act.put, List.setIfInBounds_toArray, List.set_cons_zero, List.set_cons_succ]
              refine wpList_run (v := .pointer (some ⟨g, 0 + k * 2 + 1, none⟩)) rfl (exec_field (off := 0 + k * 2) (d := 1) rfl rfl (by kernel_rfl)) ?_
              simp only [Act.put, List.setIfInBounds_toArray, List.set_cons_zero, List.set_cons_succ]
              refine wpList_run (v := .int .i64 s.2) rfl (exec_load1 rfl rfl (by kernel_rfl) (HRG.out 1 _ rfl)) ?_
              simp only [Act.put, List.setIfInBounds_toArray, List.set_cons_zero, List.set_cons_succ]
              refine wpList_run (v := .bool false) rfl (ix_gtr rfl rfl rfl (decide_eq_false h3)) ?_
              simp only [Act.put, List.setIfInBounds_toArray, List.set_cons_zero, List.set_cons_succ]
              refine wpList_run (v := .bool false) (wanted_none rfl) (ix_pickF rfl rfl rfl) ?_
              simp only [Act.put, List.setIfInBounds_toArray, List.set_cons_zero, List.set_cons_succ]
              clear h2 h3
              go_upto_region 8 with fail
              refine wp_region_lit ?_
              refine wpList_run (v := .int .i64 (k : Int)) (wanted_none rfl) (exec_move rfl rfl) ?_
              simp only [Act.put, List.setIfInBounds_toArray, List.set_cons_zero, List.set_cons_succ]
              refine wpList_run (v := .int .i64 sm) (wanted_none rfl) (exec_move rfl rfl) ?_
              simp only [Act.put, List.setIfInBounds_toArray, List.set_cons_zero, List.set_cons_succ]
              refine wpList_run (v := strV pan) (wanted_none rfl) (exec_move rfl rfl) ?_
              simp only [Act.put, List.setIfInBounds_toArray, List.set_cons_zero, List.set_cons_succ]
              refine wpList_run (v := .agg (hadC ((k : Int), sm, pan)).toArray) (wanted_none rfl) (gx_build3 rfl rfl rfl rfl (build_had _ _ _ _)) ?_
              simp only [Act.put, List.setIfInBounds_toArray, List.set_cons_zero, List.set_cons_succ]
              refine wpList_run (v := .slice (some ⟨w.heap.size, 0, none⟩) 1 1) (w' := w.alloc (.cells (hadC ((k : Int), sm, pan)).toArray 60)) (wanted_none rfl) (exec_buildSlice1 rfl rfl (build_one elmH (hadC ((k : Int), sm, pan)) rfl (by decide) _ rfl _)) ?_
              simp only [Act.put, List.setIfInBounds_toArray, List.set_cons_zero, List.set_cons_succ]
              refine wpList_run (v := .slice (some ⟨w.heap.size, 0, none⟩) 1 1) (wanted_none rfl) (gx_assign rfl rfl) ?_
              simp only [Act.put, List.setIfInBounds_toArray, List.set_cons_zero, List.set_cons_succ]
              have hor : Orw (w.alloc (.cells (hadC ((k : Int), sm, pan)).toArray 60)) w.heap.size 60 3 (.slice (some ⟨w.heap.size, 0, none⟩) 1 1) ([((k : Int), sm, pan)].map hadC) := ⟨Fit.one rfl (hadC_one _), rfl, .inr ⟨w.heap.size, 1, (hadC ((k : Int), sm, pan)).toArray, rfl, Nat.le_refl _, heap_alloc_new w _, Nat.le_refl 1, by unfold maxLen; omega, rfl, rfl⟩⟩
              have ht1 := (Turn.refl nowhere w).alloc (.cells (hadC ((k : Int), sm, pan)).toArray 60)
              generalize w.alloc (.cells (hadC ((k : Int), sm, pan)).toArray 60) = w1 at *
              have HO1 := Lib.hid hor
              have HT1 := Lib.hid ht1
              have HB1 := Lib.hid (HB.out.turn ht1 fun e => e)
              clear hor ht1
              go_upto_region 9 with fail
              refine wp_region_lit ?_
              refine wpList_run (v := .int .i64 0) (wanted_none rfl) (gx_assign rfl rfl) ?_
              simp only [Act.put, List.setIfInBounds_toArray, List.set_cons_zero, List.set_cons_succ]
              obtain ⟨sv, hsv⟩ : ∃ z, z = Value.slice (some ⟨w.heap.size, 0, none⟩) 1 1 := ⟨_, rfl⟩
              rw [← hsv] at HO1 ⊢
              clear hsv
              obtain ⟨o0, ho0⟩ : ∃ z, z = 0 + k * 2 := ⟨_, rfl⟩
              rw [← ho0]
              obtain ⟨o1, ho1⟩ : ∃ z, z = o0 + 0 := ⟨_, rfl⟩
              rw [← ho1]
              obtain ⟨o2, ho2⟩ : ∃ z, z = o0 + 1 := ⟨_, rfl⟩
              rw [← ho2]
              clear ho0 ho1 ho2
              go_wp2_with fail
              go_loopg [10, 11] m (fun gk lv iv wr => ∃ (i : Nat) (a : List Si.Hd), iv = .int .i64 (i : Int) ∧ i + gk = m ∧ a = ((k : Int), sm, pan) :: Si.others (L.take i) ((k : Int), pan) ∧ a.length ≤ i + 1 ∧ Orw wr w.heap.size 60 3 lv (a.map hadC) ∧ Turn nowhere w wr)
              case atStart => exact ⟨0, [((k : Int), sm, pan)], rfl, by omega, rfl, by simp, HO1.out, HT1.out⟩
              obtain ⟨i, a, rfl, hgk, ha, hal, ho, htr⟩ := hrel
              obtain ⟨A6, c6, e6, _⟩ := ho.form
              have hlm : (a.map hadC).length = a.length := List.length_map ..
              rw [hlm] at e6
              subst e6
              have HGK := Lib.hid hgk
              have HA := Lib.hid ha
              have HAL := Lib.hid hal
              have HO := Lib.hid ho
              have HTR := Lib.hid htr
              have HRR := Lib.hid (HR.out.still htr)
              have HBR := Lib.hid (HB.out.turn htr fun e => e)
              have yi : (i : Int) ≤ (m : Int) := by omega
              clear hgk ha hal ho htr hlm
              obtain ⟨la, hla⟩ : ∃ z, z = a.length := ⟨_, rfl⟩
              rw [← hla] at HO HAL ⊢
              have HLA := Lib.hid hla
              clear hla
              by_cases hlt : i < m
              · have HLT := Lib.hid hlt
                have y3 : (i : Int) < (m : Int) := by omega
                obtain ⟨x, hx⟩ : ∃ x, L[i]? = some x := ⟨L[i]'(by rw [HM.out]; exact hlt), List.getElem?_eq_getElem (by rw [HM.out]; exact hlt)⟩
                obtain ⟨g9, rfl, hrg⟩ := had_rng HRR.out hx
                have HX := Lib.hid hx
                have HRG9 := Lib.hid hrg
                have HTO := Lib.hid (told_or L ((k : Int), pan) i x hx)
                clear hlt hx hrg
                go_upto_region 10 with fail
                refine wp_region_lit ?_
                refine wpList_run (v := .int .i64 (i : Int)) (wanted_none rfl) (exec_move rfl rfl) ?_
                simp only [Act.put, List.setIfInBounds_toArray, List.set_cons_zero, List.set_cons_succ]
                refine wpList_run (v := .pointer (some ⟨y, 0, none⟩)) (wanted_none rfl) (exec_move rfl rfl) ?_
                simp only [Act.put, List.setIfInBounds_toArray, List.set_cons_zero, List.set_cons_succ]
                refine wpList_run (v := .pointer (some ⟨y, 0, none⟩)) (wanted_none rfl) (exec_nil rfl rfl) ?_
                simp only [Act.put, List.setIfInBounds_toArray, List.set_cons_zero, List.set_cons_succ]
                refine wpList_run (v := .pointer (some ⟨y, 1, none⟩)) (wanted_none rfl) (exec_field (off := 0) (d := 1) rfl rfl (by kernel_rfl)) ?_
                simp only [Act.put, List.setIfInBounds_toArray, List.set_cons_zero, List.set_cons_succ]
                refine wpList_run (v := .slice (some ⟨g9, 0, none⟩) m d) (wanted_none rfl) (exec_load1 rfl rfl (by kernel_rfl) (HBR.out.cell 1)) ?_
                simp only [Act.put, List.setIfInBounds_toArray, List.set_cons_zero, List.set_cons_succ]
                refine wpList_run (v := .int .i64 (m : Int)) (wanted_none rfl) (gx_len rfl rfl Try.underlying50) ?_
                simp only [Act.put, List.setIfInBounds_toArray, List.set_cons_zero, List.set_cons_succ]
                refine wpList_run (v := .bool true) (wanted_none rfl) (ix_lss rfl rfl rfl (decide_eq_true y3)) ?_
                simp only [Act.put, List.setIfInBounds_toArray, List.set_cons_zero, List.set_cons_succ]
                by_cases he : x.1 = (k : Int)
                · by_cases hp : x.2.2 = pan
                  · have HTO2 := Lib.hid (show Si.others (L.take (i + 1)) ((k : Int), pan) = Si.others (L.take i) ((k : Int), pan) from by rw [HTO.out, if_pos ⟨he, hp⟩])
                    have HE := Lib.hid he
                    have HP := Lib.hid hp
                    clear he hp
                    go_upto_region 12 with fail
                    refine wp_region_lit ?_
                    refine wpList_run (v := .pointer (some ⟨y, 0, none⟩)) (wanted_none rfl) (exec_move rfl rfl) ?_
                    simp only [Act.put, List.setIfInBounds_toArray, List.set_cons_zero, List.set_cons_succ]
                    refine wpList_run (v := .pointer (some ⟨y, 0, none⟩)) (wanted_none rfl) (exec_nil rfl rfl) ?_
                    simp only [Act.put, List.setIfInBounds_toArray, List.set_cons_zero, List.set_cons_succ]
                    refine wpList_run (v := .pointer (some ⟨y, 1, none⟩)) (wanted_none rfl) (exec_field (off := 0) (d := 1) rfl rfl (by kernel_rfl)) ?_
                    simp only [Act.put, List.setIfInBounds_toArray, List.set_cons_zero, List.set_cons_succ]
                    refine wpList_run (v := .slice (some ⟨g9, 0, none⟩) m d) (wanted_none rfl) (exec_load1 rfl rfl (by kernel_rfl) (HBR.out.cell 1)) ?_
                    simp only [Act.put, List.setIfInBounds_toArray, List.set_cons_zero, List.set_cons_succ]
                    refine wpList_run (v := .int .i64 (i : Int)) (wanted_none rfl) (exec_move rfl rfl) ?_
                    simp only [Act.put, List.setIfInBounds_toArray, List.set_cons_zero, List.set_cons_succ]
                    refine wpList_run (v := .pointer (some ⟨g9, 0 + i * 3, none⟩)) (wanted_none rfl) (gx_iaddr (i := i) (sz := 3) rfl rfl rfl Try.underlying50 size_had HLT.out rfl) ?_
                    simp only [Act.put, List.setIfInBounds_toArray, List.set_cons_zero, List.set_cons_succ]
                    refine wpList_run (v := .pointer (some ⟨g9, 0 + i * 3 + 0, none⟩)) (wanted_none rfl) (exec_field (off := 0 + i * 3) (d := 0) rfl rfl (by kernel_rfl)) ?_
                    simp only [Act.put, List.setIfInBounds_toArray, List.set_cons_zero, List.set_cons_succ]
                    refine wpList_run (v := .int .i64 x.1) (wanted_none rfl) (exec_load1 rfl rfl (by kernel_rfl) (HRG9.out 0 _ rfl)) ?_
                    simp only [Act.put, List.setIfInBounds_toArray, List.set_cons_zero, List.set_cons_succ]
                    refine wpList_run (v := .int .i64 (k : Int)) (wanted_none rfl) (exec_move rfl rfl) ?_
                    simp only [Act.put, List.setIfInBounds_toArray, List.set_cons_zero, List.set_cons_succ]
                    refine wpList_run (v := .bool false) (wanted_none rfl) (ix_neq rfl rfl rfl (decide_eq_false (fun e => e HE.out))) ?_
                    simp only [Act.put, List.setIfInBounds_toArray, List.set_cons_zero, List.set_cons_succ]
                    refine wpList_run (v := .bool false) (wanted_none rfl) (exec_move rfl rfl) ?_
                    simp only [Act.put, List.setIfInBounds_toArray, List.set_cons_zero, List.set_cons_succ]
                    refine wpList_run (v := .pointer (some ⟨y, 0, none⟩)) rfl (exec_move rfl rfl) ?_
                    simp only [Act.put, List.setIfInBounds_toArray, List.set_cons_zero, List.set_cons_succ]
                    refine wpList_run (v := .pointer (some ⟨y, 0, none⟩)) rfl (exec_nil rfl rfl) ?_
                    simp only [Act.put, List.setIfInBounds_toArray, List.set_cons_zero, List.set_cons_succ]
                    refine wpList_run (v := .pointer (some ⟨y, 1, none⟩)) rfl (exec_field (off := 0) (d := 1) rfl rfl (by kernel_rfl)) ?_
                    simp only [Act.put, List.setIfInBounds_toArray, List.set_cons_zero, List.set_cons_succ]
                    refine wpList_run (v := .slice (some ⟨g9, 0, none⟩) m d) rfl (exec_load1 rfl rfl (by kernel_rfl) (HBR.out.cell 1)) ?_
                    simp only [Act.put, List.setIfInBounds_toArray, List.set_cons_zero, List.set_cons_succ]
                    refine wpList_run (v := .int .i64 (i : Int)) rfl (exec_move rfl rfl) ?_
                    simp only [Act.put, List.setIfInBounds_toArray, List.set_cons_zero, List.set_cons_succ]
                    refine wpList_run (v := .pointer (some ⟨g9, 0 + i * 3, none⟩)) rfl (gx_iaddr (i := i) (sz := 3) rfl rfl rfl Try.underlying50 size_had HLT.out rfl) ?_
                    simp only [Act.put, List.setIfInBounds_toArray, List.set_cons_zero, List.set_cons_succ]
                    refine wpList_run (v := .pointer (some ⟨g9, 0 + i * 3 + 2, none⟩)) rfl (exec_field (off := 0 + i * 3) (d := 2) rfl rfl (by kernel_rfl)) ?_
                    simp only [Act.put, List.setIfInBounds_toArray, List.set_cons_zero, List.set_cons_succ]
                    refine wpList_run (v := strV x.2.2) rfl (exec_load1 rfl rfl (by kernel_rfl) (HRG9.out 2 _ rfl)) ?_
                    simp only [Act.put, List.setIfInBounds_toArray, List.set_cons_zero, List.set_cons_succ]
                    refine wpList_run (v := strV pan) rfl (exec_move rfl rfl) ?_
                    simp only [Act.put, List.setIfInBounds_toArray, List.set_cons_zero, List.set_cons_succ]
                    refine wpList_run (v := .bool false) rfl ((exec_sneq rfl rfl rfl).trans (by rw [beq_iff_eq.2 HP.out]; rfl)) ?_
                    simp only [Act.put, List.setIfInBounds_toArray, List.set_cons_zero, List.set_cons_succ]
                    refine wpList_run (v := .bool false) (wanted_none rfl) (ix_pickF rfl rfl rfl) ?_
                    simp only [Act.put, List.setIfInBounds_toArray, List.set_cons_zero, List.set_cons_succ]
                    go_upto_region 11 with fail
                    refine wp_region_lit ?_
                    refine wpList_run (v := .int .i64 (i : Int)) (wanted_none rfl) (exec_move rfl rfl) ?_
                    simp only [Act.put, List.setIfInBounds_toArray, List.set_cons_zero, List.set_cons_succ]
                    refine wpList_run (v := .int .i64 ((i + 1 : Nat) : Int)) (wanted_none rfl) (ix_add rfl rfl rfl (by omega) (by omega)) ?_
                    simp only [Act.put, List.setIfInBounds_toArray, List.set_cons_zero, List.set_cons_succ]
                    refine wpList_run (v := .int .i64 ((i + 1 : Nat) : Int)) (wanted_none rfl) (gx_assign rfl rfl) ?_
                    simp only [Act.put, List.setIfInBounds_toArray, List.set_cons_zero, List.set_cons_succ]
                    go_wp2_with fail
                    go_roundg (m - (i + 1))
                    case measure => have := HGK.out; have := HLT.out; omega
                    case rel => exact ⟨i + 1, a, rfl, by have := HLT.out; omega, by rw [HTO2.out]; exact HA.out, by rw [← HLA.out]; have := HAL.out; omega, by rw [← HLA.out] at *; exact HO.out, HTR.out⟩
                  · have HNE := Lib.hid (show ¬ (x.1 = (k : Int) ∧ x.2.2 = pan) from fun e => hp e.2)
                    have HE := Lib.hid he
                    have HP := Lib.hid hp
                    clear he hp
                    have HTO2 := Lib.hid (show Si.others (L.take (i + 1)) ((k : Int), pan) = Si.others (L.take i) ((k : Int), pan) ++ [x] from by rw [HTO.out, if_neg HNE.out])
                    obtain ⟨A8, c8, w8, hrun, hrow, ht8⟩ := orw_add elmH (ty := 50) (W1 := w) HO.out HTR.out (hadC x) rfl (hadC_one x) (by rw [List.length_map, ← HLA.out]; have := HAL.out; omega)
                    rw [List.length_map, ← HLA.out] at hrun hrow
                    have HRUN := Lib.hid hrun
                    have HO8 := Lib.hid hrow
                    have HT8 := Lib.hid ht8
                    clear hrun hrow ht8
                    go_upto_region 12 with fail
                    refine wp_region_lit ?_
                    refine wpList_run (v := .pointer (some ⟨y, 0, none⟩)) (wanted_none rfl) (exec_move rfl rfl) ?_
                    simp only [Act.put, List.setIfInBounds_toArray, List.set_cons_zero, List.set_cons_succ]
                    refine wpList_run (v := .pointer (some ⟨y, 0, none⟩)) (wanted_none rfl) (exec_nil rfl rfl) ?_
                    simp only [Act.put, List.setIfInBounds_toArray, List.set_cons_zero, List.set_cons_succ]
                    refine wpList_run (v := .pointer (some ⟨y, 1, none⟩)) (wanted_none rfl) (exec_field (off := 0) (d := 1) rfl rfl (by kernel_rfl)) ?_
                    simp only [Act.put, List.setIfInBounds_toArray, List.set_cons_zero, List.set_cons_succ]
                    refine wpList_run (v := .slice (some ⟨g9, 0, none⟩) m d) (wanted_none rfl) (exec_load1 rfl rfl (by kernel_rfl) (HBR.out.cell 1)) ?_
                    simp only [Act.put, List.setIfInBounds_toArray, List.set_cons_zero, List.set_cons_succ]
                    refine wpList_run (v := .int .i64 (i : Int)) (wanted_none rfl) (exec_move rfl rfl) ?_
                    simp only [Act.put, List.setIfInBounds_toArray, List.set_cons_zero, List.set_cons_succ]
                    refine wpList_run (v := .pointer (some ⟨g9, 0 + i * 3, none⟩)) (wanted_none rfl) (gx_iaddr (i := i) (sz := 3) rfl rfl rfl Try.underlying50 size_had HLT.out rfl) ?_
                    simp only [Act.put, List.setIfInBounds_toArray, List.set_cons_zero, List.set_cons_succ]
                    refine wpList_run (v := .pointer (some ⟨g9, 0 + i * 3 + 0, none⟩)) (wanted_none rfl) (exec_field (off := 0 + i * 3) (d := 0) rfl rfl (by kernel_rfl)) ?_
                    simp only [Act.put, List.setIfInBounds_toArray, List.set_cons_zero, List.set_cons_succ]
                    refine wpList_run (v := .int .i64 x.1) (wanted_none rfl) (exec_load1 rfl rfl (by kernel_rfl) (HRG9.out 0 _ rfl)) ?_
                    simp only [Act.put, List.setIfInBounds_toArray, List.set_cons_zero, List.set_cons_succ]
                    refine wpList_run (v := .int .i64 (k : Int)) (wanted_none rfl) (exec_move rfl rfl) ?_
                    simp only [Act.put, List.setIfInBounds_toArray, List.set_cons_zero, List.set_cons_succ]
                    refine wpList_run (v := .bool false) (wanted_none rfl) (ix_neq rfl rfl rfl (decide_eq_false (fun e => e HE.out))) ?_
                    simp only [Act.put, List.setIfInBounds_toArray, List.set_cons_zero, List.set_cons_succ]
                    refine wpList_run (v := .bool false) (wanted_none rfl) (exec_move rfl rfl) ?_
                    simp only [Act.put, List.setIfInBounds_toArray, List.set_cons_zero, List.set_cons_succ]
                    refine wpList_run (v := .pointer (some ⟨y, 0, none⟩)) rfl (exec_move rfl rfl) ?_
                    simp only [Act.put, List.setIfInBounds_toArray, List.set_cons_zero, List.set_cons_succ]
                    refine wpList_run (v := .pointer (some ⟨y, 0, none⟩)) rfl (exec_nil rfl rfl) ?_
                    simp only [Act.put, List.setIfInBounds_toArray, List.set_cons_zero, List.set_cons_succ]
                    refine wpList_run (v := .pointer (some ⟨y, 1, none⟩)) rfl (exec_field (off := 0) (d := 1) rfl rfl (by kernel_rfl)) ?_
                    simp only [Act.put, List.setIfInBounds_toArray, List.set_cons_zero, List.set_cons_succ]
                    refine wpList_run (v := .slice (some ⟨g9, 0, none⟩) m d) rfl (exec_load1 rfl rfl (by kernel_rfl) (HBR.out.cell 1)) ?_
                    simp only [Act.put, List.setIfInBounds_toArray, List.set_cons_zero, List.set_cons_succ]
                    refine wpList_run (v := .int .i64 (i : Int)) rfl (exec_move rfl rfl) ?_
                    simp only [Act.put, List.setIfInBounds_toArray, List.set_cons_zero, List.set_cons_succ]
                    refine wpList_run (v := .pointer (some ⟨g9, 0 + i * 3, none⟩)) rfl (gx_iaddr (i := i) (sz := 3) rfl rfl rfl Try.underlying50 size_had HLT.out rfl) ?_
                    simp only [Act.put, List.setIfInBounds_toArray, List.set_cons_zero, List.set_cons_succ]
                    refine wpList_run (v := .pointer (some ⟨g9, 0 + i * 3 + 2, none⟩)) rfl (exec_field (off := 0 + i * 3) (d := 2) rfl rfl (by kernel_rfl)) ?_
                    simp only [Act.put, List.setIfInBounds_toArray, List.set_cons_zero, List.set_cons_succ]
                    refine wpList_run (v := strV x.2.2) rfl (exec_load1 rfl rfl (by kernel_rfl) (HRG9.out 2 _ rfl)) ?_
                    simp only [Act.put, List.setIfInBounds_toArray, List.set_cons_zero, List.set_cons_succ]
                    refine wpList_run (v := strV pan) rfl (exec_move rfl rfl) ?_
                    simp only [Act.put, List.setIfInBounds_toArray, List.set_cons_zero, List.set_cons_succ]
                    refine wpList_run (v := .bool true) rfl ((exec_sneq rfl rfl rfl).trans (by rw [beq_eq_false_iff_ne.2 HP.out]; rfl)) ?_
                    simp only [Act.put, List.setIfInBounds_toArray, List.set_cons_zero, List.set_cons_succ]
                    refine wpList_run (v := .bool true) (wanted_none rfl) (ix_pickF rfl rfl rfl) ?_
                    simp only [Act.put, List.setIfInBounds_toArray, List.set_cons_zero, List.set_cons_succ]
                    go_upto_region 13 with fail
                    refine wp_region_lit ?_
                    refine wpList_run (v := .slice A6 la c6) (wanted_none rfl) (exec_move rfl rfl) ?_
                    simp only [Act.put, List.setIfInBounds_toArray, List.set_cons_zero, List.set_cons_succ]
                    refine wpList_run (v := .pointer (some ⟨y, 0, none⟩)) (wanted_none rfl) (exec_move rfl rfl) ?_
                    simp only [Act.put, List.setIfInBounds_toArray, List.set_cons_zero, List.set_cons_succ]
                    refine wpList_run (v := .pointer (some ⟨y, 0, none⟩)) (wanted_none rfl) (exec_nil rfl rfl) ?_
                    simp only [Act.put, List.setIfInBounds_toArray, List.set_cons_zero, List.set_cons_succ]
                    refine wpList_run (v := .pointer (some ⟨y, 1, none⟩)) (wanted_none rfl) (exec_field (off := 0) (d := 1) rfl rfl (by kernel_rfl)) ?_
                    simp only [Act.put, List.setIfInBounds_toArray, List.set_cons_zero, List.set_cons_succ]
                    refine wpList_run (v := .slice (some ⟨g9, 0, none⟩) m d) (wanted_none rfl) (exec_load1 rfl rfl (by kernel_rfl) (HBR.out.cell 1)) ?_
                    simp only [Act.put, List.setIfInBounds_toArray, List.set_cons_zero, List.set_cons_succ]
                    refine wpList_run (v := .int .i64 (i : Int)) (wanted_none rfl) (exec_move rfl rfl) ?_
                    simp only [Act.put, List.setIfInBounds_toArray, List.set_cons_zero, List.set_cons_succ]
                    refine wpList_run (v := .pointer (some ⟨g9, 0 + i * 3, none⟩)) (wanted_none rfl) (gx_iaddr (i := i) (sz := 3) rfl rfl rfl Try.underlying50 size_had HLT.out rfl) ?_
                    simp only [Act.put, List.setIfInBounds_toArray, List.set_cons_zero, List.set_cons_succ]
                    refine wpList_run (v := .agg (hadC x).toArray) (wanted_none rfl) (gx_loads rfl rfl HRG9.out Try.underlying60 rfl (by rw [size_had]; rfl)) ?_
                    simp only [Act.put, List.setIfInBounds_toArray, List.set_cons_zero, List.set_cons_succ]
                    refine wpList_run (v := .slice (some ⟨wr.heap.size, 0, none⟩) 1 1) (w' := wr.alloc (.cells (hadC x).toArray 60)) (wanted_none rfl) (exec_buildSlice1 rfl rfl (build_one elmH (hadC x) rfl (by decide) _ rfl _)) ?_
                    simp only [Act.put, List.setIfInBounds_toArray, List.set_cons_zero, List.set_cons_succ]
                    refine wpList_run (v := .slice A8 (la + 1) c8) (w' := w8) (wanted_none rfl) (exec_append rfl rfl rfl HRUN.out) ?_
                    simp only [Act.put, List.setIfInBounds_toArray, List.set_cons_zero, List.set_cons_succ]
                    refine wpList_run (v := .slice A8 (la + 1) c8) (wanted_none rfl) (gx_assign rfl rfl) ?_
                    simp only [Act.put, List.setIfInBounds_toArray, List.set_cons_zero, List.set_cons_succ]
                    go_upto_region 11 with fail
                    refine wp_region_lit ?_
                    refine wpList_run (v := .int .i64 (i : Int)) (wanted_none rfl) (exec_move rfl rfl) ?_
                    simp only [Act.put, List.setIfInBounds_toArray, List.set_cons_zero, List.set_cons_succ]
                    refine wpList_run (v := .int .i64 ((i + 1 : Nat) : Int)) (wanted_none rfl) (ix_add rfl rfl rfl (by omega) (by omega)) ?_
                    simp only [Act.put, List.setIfInBounds_toArray, List.set_cons_zero, List.set_cons_succ]
                    refine wpList_run (v := .int .i64 ((i + 1 : Nat) : Int)) (wanted_none rfl) (gx_assign rfl rfl) ?_
                    simp only [Act.put, List.setIfInBounds_toArray, List.set_cons_zero, List.set_cons_succ]
                    go_wp2_with fail
                    go_roundg (m - (i + 1))
                    case measure => have := HGK.out; have := HLT.out; omega
                    case rel => exact ⟨i + 1, a ++ [x], rfl, by have := HLT.out; omega, by rw [HTO2.out, HA.out]; rfl, by rw [List.length_append, ← HLA.out]; have := HAL.out; simp; omega, by rw [List.map_append]; exact HO8.out, HT8.out⟩
                · have HNE := Lib.hid (show ¬ (x.1 = (k : Int) ∧ x.2.2 = pan) from fun e => he e.1)
                  have HE := Lib.hid he
                  clear he
                  have HTO2 := Lib.hid (show Si.others (L.take (i + 1)) ((k : Int), pan) = Si.others (L.take i) ((k : Int), pan) ++ [x] from by rw [HTO.out, if_neg HNE.out])
                  obtain ⟨A8, c8, w8, hrun, hrow, ht8⟩ := orw_add elmH (ty := 50) (W1 := w) HO.out HTR.out (hadC x) rfl (hadC_one x) (by rw [List.length_map, ← HLA.out]; have := HAL.out; omega)
                  rw [List.length_map, ← HLA.out] at hrun hrow
                  have HRUN := Lib.hid hrun
                  have HO8 := Lib.hid hrow
                  have HT8 := Lib.hid ht8
                  clear hrun hrow ht8
                  go_upto_region 12 with fail
                  first
                  | (rename_i K9 hK9; have HKC := Lib.hid hK9; clear hK9)
                  | (rename_i K9 hK9 K8; have HKC := Lib.hid hK9; clear hK9)
                  refine wp_region_lit ?_
                  refine wpList_run (v := .pointer (some ⟨y, 0, none⟩)) (wanted_none rfl) (exec_move rfl rfl) ?_
                  simp only [Act.put, List.setIfInBounds_toArray, List.set_cons_zero, List.set_cons_succ]
                  refine wpList_run (v := .pointer (some ⟨y, 0, none⟩)) (wanted_none rfl) (exec_nil rfl rfl) ?_
                  simp only [Act.put, List.setIfInBounds_toArray, List.set_cons_zero, List.set_cons_succ]
                  refine wpList_run (v := .pointer (some ⟨y, 1, none⟩)) (wanted_none rfl) (exec_field (off := 0) (d := 1) rfl rfl (by kernel_rfl)) ?_
                  simp only [Act.put, List.setIfInBounds_toArray, List.set_cons_zero, List.set_cons_succ]
                  refine wpList_run (v := .slice (some ⟨g9, 0, none⟩) m d) (wanted_none rfl) (exec_load1 rfl rfl (by kernel_rfl) (HBR.out.cell 1)) ?_
                  simp only [Act.put, List.setIfInBounds_toArray, List.set_cons_zero, List.set_cons_succ]
                  refine wpList_run (v := .int .i64 (i : Int)) (wanted_none rfl) (exec_move rfl rfl) ?_
                  simp only [Act.put, List.setIfInBounds_toArray, List.set_cons_zero, List.set_cons_succ]
                  refine wpList_run (v := .pointer (some ⟨g9, 0 + i * 3, none⟩)) (wanted_none rfl) (gx_iaddr (i := i) (sz := 3) rfl rfl rfl Try.underlying50 size_had HLT.out rfl) ?_
                  simp only [Act.put, List.setIfInBounds_toArray, List.set_cons_zero, List.set_cons_succ]
                  refine wpList_run (v := .pointer (some ⟨g9, 0 + i * 3 + 0, none⟩)) (wanted_none rfl) (exec_field (off := 0 + i * 3) (d := 0) rfl rfl (by kernel_rfl)) ?_
                  simp only [Act.put, List.setIfInBounds_toArray, List.set_cons_zero, List.set_cons_succ]
                  refine wpList_run (v := .int .i64 x.1) (wanted_none rfl) (exec_load1 rfl rfl (by kernel_rfl) (HRG9.out 0 _ rfl)) ?_
                  simp only [Act.put, List.setIfInBounds_toArray, List.set_cons_zero, List.set_cons_succ]
                  refine wpList_run (v := .int .i64 (k : Int)) (wanted_none rfl) (exec_move rfl rfl) ?_
                  simp only [Act.put, List.setIfInBounds_toArray, List.set_cons_zero, List.set_cons_succ]
                  refine wpList_run (v := .bool true) (wanted_none rfl) (ix_neq rfl rfl rfl (decide_eq_true HE.out)) ?_
                  simp only [Act.put, List.setIfInBounds_toArray, List.set_cons_zero, List.set_cons_succ]
                  refine wpList_run (v := .bool true) (wanted_none rfl) (exec_move rfl rfl) ?_
                  simp only [Act.put, List.setIfInBounds_toArray, List.set_cons_zero, List.set_cons_succ]
                  go_wp2_with fail
                  refine HKC.out _ _ ?_
                  clear HKC
                  go_upto_region 13 with fail
                  refine wp_region_lit ?_
                  refine wpList_run (v := .slice A6 la c6) (wanted_none rfl) (exec_move rfl rfl) ?_
                  simp only [Act.put, List.setIfInBounds_toArray, List.set_cons_zero, List.set_cons_succ]
                  refine wpList_run (v := .pointer (some ⟨y, 0, none⟩)) (wanted_none rfl) (exec_move rfl rfl) ?_
                  simp only [Act.put, List.setIfInBounds_toArray, List.set_cons_zero, List.set_cons_succ]
                  refine wpList_run (v := .pointer (some ⟨y, 0, none⟩)) (wanted_none rfl) (exec_nil rfl rfl) ?_
                  simp only [Act.put, List.setIfInBounds_toArray, List.set_cons_zero, List.set_cons_succ]
                  refine wpList_run (v := .pointer (some ⟨y, 1, none⟩)) (wanted_none rfl) (exec_field (off := 0) (d := 1) rfl rfl (by kernel_rfl)) ?_
                  simp only [Act.put, List.setIfInBounds_toArray, List.set_cons_zero, List.set_cons_succ]
                  refine wpList_run (v := .slice (some ⟨g9, 0, none⟩) m d) (wanted_none rfl) (exec_load1 rfl rfl (by kernel_rfl) (HBR.out.cell 1)) ?_
                  simp only [Act.put, List.setIfInBounds_toArray, List.set_cons_zero, List.set_cons_succ]
                  refine wpList_run (v := .int .i64 (i : Int)) (wanted_none rfl) (exec_move rfl rfl) ?_
                  simp only [Act.put, List.setIfInBounds_toArray, List.set_cons_zero, List.set_cons_succ]
                  refine wpList_run (v := .pointer (some ⟨g9, 0 + i * 3, none⟩)) (wanted_none rfl) (gx_iaddr (i := i) (sz := 3) rfl rfl rfl Try.underlying50 size_had HLT.out rfl) ?_
                  simp only [Act.put, List.setIfInBounds_toArray, List.set_cons_zero, List.set_cons_succ]
                  refine wpList_run (v := .agg (hadC x).toArray) (wanted_none rfl) (gx_loads rfl rfl HRG9.out Try.underlying60 rfl (by rw [size_had]; rfl)) ?_
                  simp only [Act.put, List.setIfInBounds_toArray, List.set_cons_zero, List.set_cons_succ]
                  refine wpList_run (v := .slice (some ⟨wr.heap.size, 0, none⟩) 1 1) (w' := wr.alloc (.cells (hadC x).toArray 60)) (wanted_none rfl) (exec_buildSlice1 rfl rfl (build_one elmH (hadC x) rfl (by decide) _ rfl _)) ?_
                  simp only [Act.put, List.setIfInBounds_toArray, List.set_cons_zero, List.set_cons_succ]
                  refine wpList_run (v := .slice A8 (la + 1) c8) (w' := w8) (wanted_none rfl) (exec_append rfl rfl rfl HRUN.out) ?_
                  simp only [Act.put, List.setIfInBounds_toArray, List.set_cons_zero, List.set_cons_succ]
                  refine wpList_run (v := .slice A8 (la + 1) c8) (wanted_none rfl) (gx_assign rfl rfl) ?_
                  simp only [Act.put, List.setIfInBounds_toArray, List.set_cons_zero, List.set_cons_succ]
                  go_upto_region 11 with fail
                  refine wp_region_lit ?_
                  refine wpList_run (v := .int .i64 (i : Int)) (wanted_none rfl) (exec_move rfl rfl) ?_
                  simp only [Act.put, List.setIfInBounds_toArray, List.set_cons_zero, List.set_cons_succ]
                  refine wpList_run (v := .int .i64 ((i + 1 : Nat) : Int)) (wanted_none rfl) (ix_add rfl rfl rfl (by omega) (by omega)) ?_
                  simp only [Act.put, List.setIfInBounds_toArray, List.set_cons_zero, List.set_cons_succ]
                  refine wpList_run (v := .int .i64 ((i + 1 : Nat) : Int)) (wanted_none rfl) (gx_assign rfl rfl) ?_
                  simp only [Act.put, List.setIfInBounds_toArray, List.set_cons_zero, List.set_cons_succ]
                  go_wp2_with fail
                  go_roundg (m - (i + 1))
                  case measure => have := HGK.out; have := HLT.out; omega
                  case rel => exact ⟨i + 1, a ++ [x], rfl, by have := HLT.out; omega, by rw [HTO2.out, HA.out]; rfl, by rw [List.length_append, ← HLA.out]; have := HAL.out; simp; omega, by rw [List.map_append]; exact HO8.out, HT8.out⟩
              · obtain rfl : i = m := by omega
                have y3 : ¬ (i : Int) < (i : Int) := by omega
                clear hlt
                have HAF := Lib.hid (show a = ((k : Int), sm, pan) :: Si.others L ((k : Int), pan) from by rw [HA.out, List.take_of_length_le (by rw [HM.out]; exact Nat.le_refl _)])
                go_upto_region 10 with fail
                refine wp_region_lit ?_
                refine wpList_run (v := .int .i64 (i : Int)) (wanted_none rfl) (exec_move rfl rfl) ?_
                simp only [Act.put, List.setIfInBounds_toArray, List.set_cons_zero, List.set_cons_succ]
                refine wpList_run (v := .pointer (some ⟨y, 0, none⟩)) (wanted_none rfl) (exec_move rfl rfl) ?_
                simp only [Act.put, List.setIfInBounds_toArray, List.set_cons_zero, List.set_cons_succ]
                refine wpList_run (v := .pointer (some ⟨y, 0, none⟩)) (wanted_none rfl) (exec_nil rfl rfl) ?_
                simp only [Act.put, List.setIfInBounds_toArray, List.set_cons_zero, List.set_cons_succ]
                refine wpList_run (v := .pointer (some ⟨y, 1, none⟩)) (wanted_none rfl) (exec_field (off := 0) (d := 1) rfl rfl (by kernel_rfl)) ?_
                simp only [Act.put, List.setIfInBounds_toArray, List.set_cons_zero, List.set_cons_succ]
                refine wpList_run (v := .slice B i d) (wanted_none rfl) (exec_load1 rfl rfl (by kernel_rfl) (HBR.out.cell 1)) ?_
                simp only [Act.put, List.setIfInBounds_toArray, List.set_cons_zero, List.set_cons_succ]
                refine wpList_run (v := .int .i64 (i : Int)) (wanted_none rfl) (gx_len rfl rfl Try.underlying50) ?_
                simp only [Act.put, List.setIfInBounds_toArray, List.set_cons_zero, List.set_cons_succ]
                refine wpList_run (v := .bool false) (wanted_none rfl) (ix_lss rfl rfl rfl (decide_eq_false y3)) ?_
                simp only [Act.put, List.setIfInBounds_toArray, List.set_cons_zero, List.set_cons_succ]
                go_upto_region 14 with fail
                refine wp_region_lit ?_
                refine wpList_run (v := .pointer (some ⟨y, 0, none⟩)) (wanted_none rfl) (exec_move rfl rfl) ?_
                simp only [Act.put, List.setIfInBounds_toArray, List.set_cons_zero, List.set_cons_succ]
                refine wpList_run (v := .slice A6 la c6) (wanted_none rfl) (exec_move rfl rfl) ?_
                simp only [Act.put, List.setIfInBounds_toArray, List.set_cons_zero, List.set_cons_succ]
                refine wpList_run (v := .pointer (some ⟨y, 0, none⟩)) (wanted_none rfl) (exec_nil rfl rfl) ?_
                simp only [Act.put, List.setIfInBounds_toArray, List.set_cons_zero, List.set_cons_succ]
                refine wpList_run (v := .pointer (some ⟨y, 1, none⟩)) (wanted_none rfl) (exec_field (off := 0) (d := 1) rfl rfl (by kernel_rfl)) ?_
                simp only [Act.put, List.setIfInBounds_toArray, List.set_cons_zero, List.set_cons_succ]
                refine wpList_storeU 1 (.slice A6 la c6) (wanted_none rfl) 50 _ _ rfl HBR.out rfl rfl (by show 1 < 2; omega) (slice_one HO.out) size_hads ?_
                intro w9 hb9 ht9
                have hs9 : ∀ k, k < wr.heap.size → only y k → Siw wr k := fun k _ e => by rw [show k = y from e]; exact .inr ⟨_, HBR.out⟩
                have HFIN := Lib.hid (show RAskQ w y l n h ((k : Int), pan) q (.returned (.int .i64 0)) w9 from ⟨by rw [HASK.out.1], by
                  rw [HASK.out.2, ← HHD.out, ← HSM.out]
                  refine ⟨⟨some ⟨g, 0, none⟩, c, A6, la, c6, a, by rw [← HL2.out]; exact hb9, ?_, ?_, HLA.out.symm, by have := HAL.out; have := HMN.out; omega, ?_⟩, HD.out.okl, HD.out.len, fun z => ?_⟩
                  · rw [← HL2.out]
                    have h9 := HLR.out.still HTR.out
                    exact h9.turn ht9 fun g hg e => siw_orw h9 (by decide) g hg (hs9 _ (h9.lt hg).2 e)
                  · have h9 := HO.out.less (Nat.zero_le _)
                    exact h9.turn ht9 fun g hg e => siw_orw h9 (by decide) g hg (hs9 _ (h9.lt hg).2 e)
                  · rw [HAF.out]
                    have h9 := Si.told_put L ((k : Int), pan) sm
                    rw [HTD.out] at h9
                    exact h9
                  · unfold Si.put
                    split
                    · exact HOKS.out
                    · exact HD.out.okh z, (HTR.out.mono (fun k _ e => e.elim)).trans ht9 fun _ _ e => e⟩)
                clear hb9 ht9 hs9
                simp only [Act.put, List.setIfInBounds_toArray, List.set_cons_zero, List.set_cons_succ]
                go_upto_region 15 with fail
                refine wp_region_lit ?_
                refine wpList_run (v := .int .i64 0) (wanted_none rfl) (gx_assign rfl rfl) ?_
                simp only [Act.put, List.setIfInBounds_toArray, List.set_cons_zero, List.set_cons_succ]
                go_wp2_with fail
                go_ret
                exact HFIN.out
end Go.Proofs.Ytenflpbmjahbgaa
