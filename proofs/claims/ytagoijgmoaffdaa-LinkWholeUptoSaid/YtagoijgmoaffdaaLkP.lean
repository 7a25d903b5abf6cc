/-
  groatlaw06's LinkPacks, walked. Condition: as many bytes as an argument may have.
-/
import Derived.Test.YtagoijgmoaffdaaLkI
namespace Go.Proofs.Ytagoijgmoaffdaa
open Go.RowKit
open Lkk
set_option linter.unusedVariables false
set_option linter.unusedSimpArgs false
theorem exec_nself {a : Act} {o : Oper} {W : World} {x y : Operand} {l : List UInt8} {t u : TypeId} (ho : o.op = .binOp .neq t x y u) (hx : a.eval x = strV l) (hy : a.eval y = strV l) : (execOp a.eval o).run Try.prog W = .ok (.value (.bool false)) W := by
  have h := exec_sneq (W := W) ho hx hy
  simpa using h
theorem exec_sself {a : Act} {o : Oper} {W : World} {x y : Operand} {l : List UInt8} {t u : TypeId} (ho : o.op = .binOp .eql t x y u) (hx : a.eval x = strV l) (hy : a.eval y = strV l) : (execOp a.eval o).run Try.prog W = .ok (.value (.bool true)) W := by
  have h := exec_seql (W := W) ho hx hy
  simpa using h
/-- a store of one byte into an own row keeps its size, and all that lies elsewhere -/
theorem blk_of_own {w : World} {A : Option Addr} {n c : Nat} {l : List UInt8} (h : Own w 0 5 (.slice A n c) l) (hp : 0 < n) : ∃ g cur, A = some ⟨g, 0, none⟩ ∧ Blk w g 5 cur ∧ n ≤ cur.size := by
  rcases h.2 with ⟨e, h0⟩ | ⟨g, cap, cur, e, _, hg, hn, _, hs, _⟩
  · injection e with _ e2 _
    omega
  · injection e with e1 e2 e3
    have h1 := h.bs.1.1
    refine ⟨g, cur, e1, hg, ?_⟩
    rw [hs, Nat.mul_one]
    omega
set_option maxRecDepth 20000 in
set_option maxHeartbeats 2000000 in
theorem linkPacks_walk (A : Option Addr) (n c : Nat) (b : List UInt8) (W : World) (hb : Bs W A n b) (hc : A = none → c = 0) (hm : n ≤ 140737488351232) :
    Calls Try.prog 3 #[.slice A n c] W fun e w' => e = .returned (.bool true) ∧ Below W.heap.size W w' := by
  have HB := Lib.hid hb
  have HC := Lib.hid hc
  have HM := Lib.hid hm
  clear hb hc hm
  go_enter Try.func3, Try.ntmps3
  go_upto_region 2 with (go_at_call 9; refine (shown_walk _).mono ?_; rintro e w1 ⟨rfl, ht1⟩)
  obtain ⟨A2, c2, w2, hrun2, hown2, ht2, hnew2⟩ := copy_src (ty := 22) (HB.out.still ht1) HC.out (by have := HM.out; omega)
  have HT2 := Lib.hid (ht1.trans ht2 (fun _ _ e => e))
  have HO2 := Lib.hid hown2
  have HN2 := Lib.hid (show ∀ k, own_of A2 k → W.heap.size ≤ k from fun k hk => Nat.le_trans ht1.size (hnew2 k (own_block hown2 hk)))
  have HRUN := Lib.hid hrun2
  clear hrun2 hown2 ht2 hnew2
  refine wp_region_lit ?_
  refine wpList_run (v := .slice (some ⟨w1.heap.size, 0, none⟩) 0 0) (w' := w1.alloc (.cells #[] 5)) rfl (exec_buildNone rfl (build_noneB _)) ?_
  simp only [Act.put, List.setIfInBounds_toArray, List.set_cons_zero, List.set_cons_succ]
  refine wpList_run (v := .slice A n c) rfl (exec_move rfl rfl) ?_
  simp only [Act.put, List.setIfInBounds_toArray, List.set_cons_zero, List.set_cons_succ]
  refine wpList_run (v := .slice A2 n c2) (w' := w2) rfl (exec_append rfl rfl rfl HRUN.out) ?_
  simp only [Act.put, List.setIfInBounds_toArray, List.set_cons_zero, List.set_cons_succ]

  clear HRUN ht1
  go_upto_region 4 with (go_at_call 10; refine (pack_walk HO2.out.bs.1 HO2.out.bs.2.2 (by have := HM.out; omega)).mono ?_; rintro e w3 ⟨v3, rfl, ho3, ht3, hn3⟩)
  obtain ⟨A3, c3, rfl⟩ := own_form ho3
  have HO3 := Lib.hid ho3
  have HN3 := Lib.hid (show ∀ k, own_of A3 k → W.heap.size ≤ k ∧ ¬ own_of A2 k from fun k hk => ⟨Nat.le_trans HT2.out.size (hn3 k (own_block ho3 hk)), fun h2 => by
    have h3 := hn3 k (own_block ho3 hk)
    have h4 := own_lt HO2.out (own_block HO2.out h2)
    omega⟩)
  have HT3 := Lib.hid (HT2.out.trans ht3 (fun _ _ e => e))
  have HO2 := Lib.hid (HO2.out.turn ht3 (fun _ _ e => e))
  clear ho3 ht3 hn3
  go_upto_region 5 with (go_at_call 11; refine (rpack_walk (HB.out.still HT3.out) HC.out (by have := HM.out; omega)).mono ?_; rintro e w4 ⟨v4, rfl, ho4, ht4, hn4⟩)
  obtain ⟨A4, c4, rfl⟩ := own_form ho4
  have HO4 := Lib.hid ho4
  have HO3 := Lib.hid (HO3.out.turn ht4 (fun _ _ e => e))
  have HT4 := Lib.hid (HT3.out.trans ht4 (fun _ _ e => e))
  have HO2 := Lib.hid (HO2.out.turn ht4 (fun _ _ e => e))
  clear ho4 ht4 hn4
  obtain ⟨e1, he⟩ : ∃ e1, e1 = ec (okL b) := ⟨_, rfl⟩
  obtain ⟨l, hl⟩ : ∃ l, l = pkd b := ⟨_, rfl⟩
  rw [← he]
  rw [← hl] at HO3 HO4 ⊢
  obtain ⟨m, hlm⟩ : ∃ m, m = l.length := ⟨_, rfl⟩
  rw [← hlm] at HO3 HO4 ⊢
  have HL := Lib.hid hlm
  have HML := Lib.hid (show m ≤ 514 from by
    rw [hlm, hl]
    unfold pkd
    split
    · rename_i h
      have := of_decide_eq_true h
      rw [pk_len]
      omega
    · simp)
  clear he hl hlm
  refine wp_region_lit ?_
  refine wpList_run (v := .bool true) rfl (exec_move rfl rfl) ?_
  simp only [Act.put, List.setIfInBounds_toArray, List.set_cons_zero, List.set_cons_succ]
  refine wpList_run (v := .bool false) rfl (ix_not (b := true) rfl rfl) ?_
  simp only [Act.put, List.setIfInBounds_toArray, List.set_cons_zero, List.set_cons_succ]
  refine wpList_run (v := .bool false) rfl (exec_move rfl rfl) ?_
  simp only [Act.put, List.setIfInBounds_toArray, List.set_cons_zero, List.set_cons_succ]
  refine wpList_run (v := .slice A3 m c3) rfl (exec_move rfl rfl) ?_
  simp only [Act.put, List.setIfInBounds_toArray, List.set_cons_zero, List.set_cons_succ]
  refine wpList_run (v := strV l) rfl (exec_strBs rfl rfl HO3.out.bs.1) ?_
  simp only [Act.put, List.setIfInBounds_toArray, List.set_cons_zero, List.set_cons_succ]
  refine wpList_run (v := .slice A4 m c4) rfl (exec_move rfl rfl) ?_
  simp only [Act.put, List.setIfInBounds_toArray, List.set_cons_zero, List.set_cons_succ]
  refine wpList_run (v := strV l) rfl (exec_strBs rfl rfl HO4.out.bs.1) ?_
  simp only [Act.put, List.setIfInBounds_toArray, List.set_cons_zero, List.set_cons_succ]
  refine wpList_run (v := .bool false) rfl (exec_nself (l := l) rfl rfl rfl) ?_
  simp only [Act.put, List.setIfInBounds_toArray, List.set_cons_zero, List.set_cons_succ]
  refine wpList_run (v := .bool false) rfl (ix_pickF rfl rfl rfl) ?_
  simp only [Act.put, List.setIfInBounds_toArray, List.set_cons_zero, List.set_cons_succ]
  refine wpList_run (v := .bool false) rfl (exec_move rfl rfl) ?_
  simp only [Act.put, List.setIfInBounds_toArray, List.set_cons_zero, List.set_cons_succ]
  refine wpList_run (v := .int .i64 e1) rfl (exec_move rfl rfl) ?_
  simp only [Act.put, List.setIfInBounds_toArray, List.set_cons_zero, List.set_cons_succ]
  refine wpList_run (v := .int .i64 e1) rfl (exec_move rfl rfl) ?_
  simp only [Act.put, List.setIfInBounds_toArray, List.set_cons_zero, List.set_cons_succ]
  refine wpList_run (v := .bool false) rfl (ix_neq rfl rfl rfl (by simp)) ?_
  simp only [Act.put, List.setIfInBounds_toArray, List.set_cons_zero, List.set_cons_succ]
  refine wpList_run (v := .bool false) rfl (ix_pickF rfl rfl rfl) ?_
  simp only [Act.put, List.setIfInBounds_toArray, List.set_cons_zero, List.set_cons_succ]

  go_upto_region 7 with fail
  go_wp2_with fail
  go_loopg [9] m (fun gk i wr => ∃ k : Nat, k + gk = m ∧ i = .int .i64 (k : Int) ∧ Turn (own_of A3) w4 wr ∧ (0 < m → ∃ g cur, A3 = some ⟨g, 0, none⟩ ∧ Blk wr g 5 cur ∧ m ≤ cur.size))
  case atStart => exact ⟨0, by omega, rfl, Turn.refl _ _, fun h => blk_of_own HO3.out h⟩
  obtain ⟨k, hkl, rfl, htr, hcur⟩ := hrel
  have HKL := Lib.hid hkl
  have HTR := Lib.hid htr
  clear hkl htr
  by_cases hlt : k < m
  · obtain ⟨g, cur, rfl, hbk, hsz⟩ := hcur (by omega)
    have y1 : (k : Int) < (m : Int) := by omega
    have y2 : (m : Int) ≤ 514 := by have := HML.out; omega
    have HLT := Lib.hid hlt
    have HBK := Lib.hid hbk
    have HSZ := Lib.hid hsz
    clear hlt hbk hsz
    go_upto_region 10 with fail
    refine wp_region_lit ?_
    refine wpList_run (v := .slice (some ⟨g, 0, none⟩) m c3) rfl (exec_move rfl rfl) ?_
    simp only [Act.put, List.setIfInBounds_toArray, List.set_cons_zero, List.set_cons_succ]
    refine wpList_run (v := .int .i64 (k : Int)) rfl (exec_move rfl rfl) ?_
    simp only [Act.put, List.setIfInBounds_toArray, List.set_cons_zero, List.set_cons_succ]
    refine wpList_run (v := .pointer (some ⟨g, k, none⟩)) rfl (gx_iaddr (i := k) (sz := 1) rfl rfl rfl Try.underlying22 (by kernel_rfl) HLT.out (by omega)) ?_
    simp only [Act.put, List.setIfInBounds_toArray, List.set_cons_zero, List.set_cons_succ]
    refine wpList_store1 (g := g) (i := k) (v := .int .u8 99) rfl 5 (.tmp 46) (.const (.int .u8 99)) rfl HBK.out rfl rfl (by have := HLT.out; have := HSZ.out; omega) (by rfl) (by rfl) (by kernel_rfl) ?_
    intro hb5 ht5
    simp only [Act.put, List.setIfInBounds_toArray, List.set_cons_zero, List.set_cons_succ]

    have HB5 := Lib.hid hb5
    have HT5 := Lib.hid ht5
    clear hb5 ht5
    generalize World.setCell wr ⟨g, k, none⟩ (.int .u8 99) = w5 at *
    go_wp2_with fail
    go_roundg (gk - 1)
    case measure => have := HKL.out; have := HLT.out; omega
    case rel => exact ⟨k + 1, by have := HKL.out; have := HLT.out; omega, by go_num, HTR.out.trans HT5.out (fun j _ e => by have e1 : j = g := e; subst e1; exact ⟨0, none, rfl⟩), fun _ => ⟨g, _, rfl, HB5.out, by rw [Array.size_setIfInBounds]; exact HSZ.out⟩⟩
  · have y1 : ¬ ((k : Int) < (m : Int)) := by omega
    have hb2 : Bs wr A2 n b := HO2.out.bs.1.turn HTR.out (fun b off s e _ _ h => (HN3.out b h).2 ⟨off, s, e⟩)
    have hb0 : Bs wr A n b := (HB.out.still HT4.out).turn HTR.out (fun b' off s e hn hlt h => by
      obtain ⟨b2, o2, e2, hc2⟩ := HB.out.2.2 hn
      rw [e] at e2
      injection e2 with e2
      injection e2 with e2 e3 e4
      subst e2
      have := World.block_lt_of_cell? _ _ (hc2 0 hn)
      have := (HN3.out _ h).1
      simp at *
      omega)
    have HB2 := Lib.hid hb2
    have HB0 := Lib.hid hb0
    clear hlt hcur hb2 hb0
    go_upto_region 11 with fail
    refine wp_region_lit ?_
    refine wpList_run (v := .slice A2 n c2) rfl (exec_move rfl rfl) ?_
    simp only [Act.put, List.setIfInBounds_toArray, List.set_cons_zero, List.set_cons_succ]
    refine wpList_run (v := strV b) rfl (exec_strBs rfl rfl HB2.out) ?_
    simp only [Act.put, List.setIfInBounds_toArray, List.set_cons_zero, List.set_cons_succ]
    refine wpList_run (v := .slice A n c) rfl (exec_move rfl rfl) ?_
    simp only [Act.put, List.setIfInBounds_toArray, List.set_cons_zero, List.set_cons_succ]
    refine wpList_run (v := strV b) rfl (exec_strBs rfl rfl HB0.out) ?_
    simp only [Act.put, List.setIfInBounds_toArray, List.set_cons_zero, List.set_cons_succ]
    refine wpList_run (v := .bool true) rfl (exec_sself (l := b) rfl rfl rfl) ?_
    simp only [Act.put, List.setIfInBounds_toArray, List.set_cons_zero, List.set_cons_succ]

    go_wp2_with fail
    go_ret
    refine ⟨rfl, (HT4.out.mono (fun _ _ e => e.elim)).trans HTR.out (fun _ _ e => e) |>.below (Nat.le_refl _) (fun k hk e => ?_)⟩
    have := (HN3.out k e).1
    omega

end Go.Proofs.Ytagoijgmoaffdaa
