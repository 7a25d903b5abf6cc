/-
  The reference's bytes of a right text. No conditions.
-/
import Derived.Test.YtgdlidjjogoiaaaGreatDoorFdPd
namespace Go.Proofs.YtgdlidjjogoiaaaGreatDoor
open Go.RowKit
open Fdd
set_option linter.unusedVariables false
set_option linter.unusedSimpArgs false
theorem two_made (a b : Int) (W : World) : (Instr.buildSlice 22 2 #[(0, .int .u8 a), (1, .int .u8 b)]).run Tryz.prog W = .ok (.slice (some ⟨W.heap.size, 0, none⟩) 2 2) (W.alloc (.cells #[.int .u8 a, .int .u8 b] 5)) := by kernel_rfl
theorem exec_two {a : Act} {o : Oper} {W : World} {x y : Operand} {u v : UInt8} (ho : o.op = .buildSlice 22 2 #[(0, x), (1, y)]) (hx : a.eval x = .int .u8 (u.toNat : Int)) (hy : a.eval y = .int .u8 (v.toNat : Int)) :
    (execOp a.eval o).run Tryz.prog W = .ok (.value (.slice (some ⟨W.heap.size, 0, none⟩) 2 2)) (W.alloc (.cells (bcs [u, v]).toArray 5)) := by
  unfold execOp
  simp only [ho, List.map_toArray, List.map_cons, List.map_nil, hx, hy, two_made, Sem.run_bind, Sem.run_pure, Result.andThen_ok]
  rfl
set_option maxHeartbeats 1000000 in
theorem two_walk (n : Nat) (w : World) (hn : n ≤ 99) : Calls Tryz.prog 36 #[.int .i64 (n : Int)] w fun e w' => e = .returned (strV (two n)) ∧ Turn nowhere w w' := by
  obtain ⟨u, hu⟩ : ∃ u, u = UInt8.ofNat (48 + n / 10) := ⟨_, rfl⟩
  obtain ⟨v, hv⟩ : ∃ v, v = UInt8.ofNat (48 + n % 10) := ⟨_, rfl⟩
  have hun : (u.toNat : Int) = 48 + ((n / 10 : Nat) : Int) := by rw [hu, UInt8.toNat_ofNat']; omega
  have hvn : (v.toNat : Int) = 48 + ((n % 10 : Nat) : Int) := by rw [hv, UInt8.toNat_ofNat']; omega
  have htw : two n = [u, v] := by rw [hu, hv]; rfl
  rw [htw]
  have hq : (n : Int).tdiv 10 = ((n / 10 : Nat) : Int) := rfl
  have hr : (n : Int).tmod 10 = ((n % 10 : Nat) : Int) := rfl
  have hd1 : n / 10 ≤ 9 := by omega
  have hd2 : n % 10 ≤ 9 := by omega
  have hw1 : IntKind.i64.wrap (48 + ((n / 10 : Nat) : Int)) = (u.toNat : Int) := by rw [IntKind.wrap_i64, hun]; omega
  have hw2 : IntKind.i64.wrap (48 + ((n % 10 : Nat) : Int)) = (v.toNat : Int) := by rw [IntKind.wrap_i64, hvn]; omega
  have hw3 : IntKind.u8.wrap (u.toNat : Int) = (u.toNat : Int) := by rw [wrapu8]; have := u.toNat_lt; omega
  have hw4 : IntKind.u8.wrap (v.toNat : Int) = (v.toNat : Int) := by rw [wrapu8]; have := v.toNat_lt; omega
  have hw5 : IntKind.i64.wrap ((n / 10 : Nat) : Int) = ((n / 10 : Nat) : Int) := by rw [IntKind.wrap_i64]; omega
  have H := Lib.hid (And.intro hq (And.intro hr (And.intro hw1 (And.intro hw2 (And.intro hw3 hw4)))))
  have H5 := Lib.hid hw5
  clear hu hv hun hvn htw hq hr hd1 hd2 hw1 hw2 hw3 hw4 hw5 hn
  generalize hn10 : ((n / 10 : Nat) : Int) = q at *
  generalize hm10 : ((n % 10 : Nat) : Int) = r at *
  clear hn10 hm10
  go_enter Tryz.func36, Tryz.ntmps36
  go_upto_region 1 with fail
  refine wp_region_lit ?_
  refine wpList_run (v := .int .i64 (n : Int)) rfl (exec_move rfl rfl) ?_
  simp only [Act.put, List.setIfInBounds_toArray, List.set_cons_zero, List.set_cons_succ]
  refine wpList_run (v := .int .i64 q) (w' := w) rfl (by have h := H.out.1; have h5 := H5.out; go_simp) ?_
  simp only [Act.put, List.setIfInBounds_toArray, List.set_cons_zero, List.set_cons_succ]
  refine wpList_run (v := .int .i64 (u.toNat : Int)) (w' := w) rfl (by have h := H.out.2.2.1; go_simp) ?_
  simp only [Act.put, List.setIfInBounds_toArray, List.set_cons_zero, List.set_cons_succ]
  refine wpList_run (v := .int .u8 (u.toNat : Int)) (w' := w) rfl (by have h := H.out.2.2.2.2.1; go_simp) ?_
  simp only [Act.put, List.setIfInBounds_toArray, List.set_cons_zero, List.set_cons_succ]
  refine wpList_run (v := .int .i64 (n : Int)) rfl (exec_move rfl rfl) ?_
  simp only [Act.put, List.setIfInBounds_toArray, List.set_cons_zero, List.set_cons_succ]
  refine wpList_run (v := .int .i64 r) (w' := w) rfl (by have h := H.out.2.1; go_simp) ?_
  simp only [Act.put, List.setIfInBounds_toArray, List.set_cons_zero, List.set_cons_succ]
  refine wpList_run (v := .int .i64 (v.toNat : Int)) (w' := w) rfl (by have h := H.out.2.2.2.1; go_simp) ?_
  simp only [Act.put, List.setIfInBounds_toArray, List.set_cons_zero, List.set_cons_succ]
  refine wpList_run (v := .int .u8 (v.toNat : Int)) (w' := w) rfl (by have h := H.out.2.2.2.2.2; go_simp) ?_
  simp only [Act.put, List.setIfInBounds_toArray, List.set_cons_zero, List.set_cons_succ]
  refine wpList_run (v := _) rfl (exec_two (u := u) (v := v) rfl rfl rfl) ?_
  simp only [Act.put, List.setIfInBounds_toArray, List.set_cons_zero, List.set_cons_succ]
  have hb := Blk.new w 5 (bcs [u, v]).toArray
  have ht : Turn nowhere w (w.alloc (.cells (bcs [u, v]).toArray 5)) := (Turn.refl nowhere w).alloc _
  generalize w.alloc (.cells (bcs [u, v]).toArray 5) = w1 at *
  have HB := Lib.hid (bs_blk hb (n := 2) rfl (by unfold maxLen; omega))
  have HT := Lib.hid ht
  clear hb ht
  refine wpList_run (v := strV [u, v]) (w' := w1) rfl (exec_strBs rfl rfl HB.out) ?_
  simp only [Act.put, List.setIfInBounds_toArray, List.set_cons_zero, List.set_cons_succ]
  go_wp2_with fail
  go_ret
  exact ⟨rfl, HT.out⟩
theorem rdig_walk (code : Int) (t : List UInt8) (w : World) (hl : t.length ≤ 1000) (ht : onlyOf t dec = true) :
    Calls Tryz.prog 35 #[.int .i64 code, strV t] w (Made w (rdigits code t)) := by
  have hp := packed_walk t w hl (onlyOf_of fun c hc => dec_hex c (only_in ht c hc))
  have hs := signs_walk code t w hl
  by_cases h : code = 2
  · have e : rdigits code t = rpack (padded t) := by unfold rdigits; rw [if_pos h]
    rw [e]
    subst h
    have HP := Lib.hid hp
    clear hp hs e ht hl
    generalize rpack (padded t) = l at *
    go_enter Tryz.func35, Tryz.ntmps35
    go_wp2_with (go_at_call 38; refine HP.out.mono ?_; rintro e w1 ⟨A, n, c, rfl, ho, ht⟩; have HO := Lib.hid ho; have HT := Lib.hid ht; clear ho ht)
    go_ret
    exact ⟨A, n, c, rfl, HO.out, HT.out⟩
  · have e : rdigits code t = rsigns code t := by unfold rdigits; rw [if_neg h]
    rw [e]
    have h2 : (code == 2) = false := by simpa using h
    have HP := Lib.hid hs
    clear hp hs e ht hl h
    generalize rsigns code t = l at *
    go_enter Tryz.func35, Tryz.ntmps35
    go_wp2_with (go_at_call 37; refine HP.out.mono ?_; rintro e w1 ⟨A, n, c, rfl, ho, ht⟩; have HO := Lib.hid ho; have HT := Lib.hid ht; clear ho ht)
    go_ret
    exact ⟨A, n, c, rfl, HO.out, HT.out⟩
/-- what a call made behind a turn that made nothing of it -/
theorem Made.of {w w1 w' : World} {l : List UInt8} {e : Ending} (h : Made w1 l e w') (ht : Turn nowhere w w1) : Made w l e w' := by
  obtain ⟨A, n, c, he, ho, h2⟩ := h
  refine ⟨A, n, c, he, ⟨ho.1, ?_⟩, ht.trans h2 fun _ _ e => e⟩
  rcases ho.2 with hn | ⟨g, cap, cur, hv, hg, hr⟩
  · exact .inl hn
  · exact .inr ⟨g, cap, cur, hv, Nat.le_trans ht.size hg, hr⟩
theorem own_lower {w : World} {B B' : Nat} {e : TypeId} {v : Value} {l : List UInt8} (h : Own w B e v l) (hb : B' ≤ B) : Own w B' e v l := by
  refine ⟨h.1, ?_⟩
  rcases h.2 with hn | ⟨g, cap, cur, hv, hg, hr⟩
  · exact .inl hn
  · exact .inr ⟨g, cap, cur, hv, Nat.le_trans hb hg, hr⟩
set_option maxHeartbeats 1000000 in
theorem bytes1_walk (s : Nat) (code : Int) (t : List UInt8) (w : World) (hl : t.length ≤ 1000) (ht : onlyOf t dec = true) :
    Calls Tryz.prog 19 #[fmV ⟨1, (s : Int), code⟩, strV t] w (Made w (rdigits code t)) := by
  have HC := Lib.hid (fun W => rdig_walk code t W hl ht)
  clear hl ht
  unfold fmV
  obtain ⟨b2, hb2⟩ : ∃ b2, b2 = w.heap.size := ⟨_, rfl⟩
  have HB2 := Lib.hid hb2
  go_enter Tryz.func19, Tryz.ntmps19
  go_upto_region 1 with fail
  have hb0 := Blk.new w 24 #[.int .i64 1, .int .i64 (s : Int), .int .i64 code]
  have ht0 := (Turn.refl nowhere w).alloc (.cells #[.int .i64 1, .int .i64 (s : Int), .int .i64 code] 24)
  generalize (w.alloc (.cells #[.int .i64 1, .int .i64 (s : Int), .int .i64 code] 24)) = w1 at *
  rw [← hb2] at hb0 ⊢
  have HBK := Lib.hid hb0
  have HT0 := Lib.hid ht0
  have c0 : w1.cell? ⟨b2, 0, none⟩ = some (.int .i64 1) := hb0.cell 0
  have c2 : w1.cell? ⟨b2, 2, none⟩ = some (.int .i64 code) := hb0.cell 2
  clear hb0 ht0 hb2
  go_wp2_with (go_at_call 35; refine (HC.out _).mono ?_; rintro e w2 hm; obtain ⟨A, n, c, rfl, ho, ht⟩ := hm.of HT0.out; have HO := Lib.hid ho; have HT := Lib.hid ht; clear ho ht hm)
  go_ret
  exact ⟨A, n, c, rfl, HO.out, HT.out⟩
set_option maxHeartbeats 1000000 in
theorem bytes3_walk (s : Nat) (code : Int) (t : List UInt8) (w : World) (hl : t.length ≤ 1000) :
    Calls Tryz.prog 19 #[fmV ⟨3, (s : Int), code⟩, strV t] w (Made w (rsigns code t)) := by
  have HC := Lib.hid (fun W => signs_walk code t W hl)
  clear hl
  unfold fmV
  obtain ⟨b2, hb2⟩ : ∃ b2, b2 = w.heap.size := ⟨_, rfl⟩
  have HB2 := Lib.hid hb2
  go_enter Tryz.func19, Tryz.ntmps19
  go_upto_region 1 with fail
  have hb0 := Blk.new w 24 #[.int .i64 3, .int .i64 (s : Int), .int .i64 code]
  have ht0 := (Turn.refl nowhere w).alloc (.cells #[.int .i64 3, .int .i64 (s : Int), .int .i64 code] 24)
  generalize (w.alloc (.cells #[.int .i64 3, .int .i64 (s : Int), .int .i64 code] 24)) = w1 at *
  rw [← hb2] at hb0 ⊢
  have HBK := Lib.hid hb0
  have HT0 := Lib.hid ht0
  have c0 : w1.cell? ⟨b2, 0, none⟩ = some (.int .i64 3) := hb0.cell 0
  have c2 : w1.cell? ⟨b2, 2, none⟩ = some (.int .i64 code) := hb0.cell 2
  clear hb0 ht0 hb2
  go_wp2_with (go_at_call 37; refine (HC.out _).mono ?_; rintro e w2 hm; obtain ⟨A, n, c, rfl, ho, ht⟩ := hm.of HT0.out; have HO := Lib.hid ho; have HT := Lib.hid ht; clear ho ht hm)
  go_ret
  exact ⟨A, n, c, rfl, HO.out, HT.out⟩
set_option maxHeartbeats 1000000 in
theorem bytes4p_walk (s : Nat) (code : Int) (t : List UInt8) (w : World) (hl : t.length ≤ 1000) (ht : onlyOf t hexs = true) (hc : code ≠ 1) :
    Calls Tryz.prog 19 #[fmV ⟨4, (s : Int), code⟩, strV t] w (Made w (rpack (padded t))) := by
  have HC := Lib.hid (fun W => packed_walk t W hl ht)
  have h1 : (code == 1) = false := by simpa using hc
  have h2 : (code != 1) = true := by simpa using hc
  clear hl ht hc
  unfold fmV
  obtain ⟨b2, hb2⟩ : ∃ b2, b2 = w.heap.size := ⟨_, rfl⟩
  have HB2 := Lib.hid hb2
  go_enter Tryz.func19, Tryz.ntmps19
  go_upto_region 1 with fail
  have hb0 := Blk.new w 24 #[.int .i64 4, .int .i64 (s : Int), .int .i64 code]
  have ht0 := (Turn.refl nowhere w).alloc (.cells #[.int .i64 4, .int .i64 (s : Int), .int .i64 code] 24)
  generalize (w.alloc (.cells #[.int .i64 4, .int .i64 (s : Int), .int .i64 code] 24)) = w1 at *
  rw [← hb2] at hb0 ⊢
  have HBK := Lib.hid hb0
  have HT0 := Lib.hid ht0
  have c0 : w1.cell? ⟨b2, 0, none⟩ = some (.int .i64 4) := hb0.cell 0
  have c2 : w1.cell? ⟨b2, 2, none⟩ = some (.int .i64 code) := hb0.cell 2
  clear hb0 ht0 hb2
  go_wp2_with (go_at_call 38; refine (HC.out _).mono ?_; rintro e w2 hm; obtain ⟨A, n, c, rfl, ho, ht⟩ := hm.of HT0.out; have HO := Lib.hid ho; have HT := Lib.hid ht; clear ho ht hm)
  go_ret
  exact ⟨A, n, c, rfl, HO.out, HT.out⟩
end Go.Proofs.YtgdlidjjogoiaaaGreatDoor
