/-
  Ledgers: Post: the walk. No conditions.
-/
import Derived.Test.YthoefjaapjaeeaaLgF
import Derived.Deep.LoopGhost
import Derived.WalkSmall
namespace Go.Proofs.Ythoefjaapjaeeaa
open Go.RowKit
open Lg (Ent)
set_option linter.unusedVariables false
set_option linter.unusedSimpArgs false
theorem ex_neq {a : Act} {o : Oper} {W : World} {x y : Operand} {u : TypeId} {z : Int} {r : Bool} (ho : o.op = .binOp .neq 63 x y u) (hx : a.eval x = .agg (exA z)) (hy : a.eval y = .agg (exA 0)) (hz : Lg.Small z) (hr : decide (z ≠ 0) = r) : (execOp a.eval o).run Try.prog W = .ok (.value (.bool r)) W := by
  subst hr
  have h := Lg.ex_zero hz
  have e0 : Lg.exH 0 = 0 := by decide
  have e1 : Lg.exL 0 = 0 := by decide
  unfold execOp
  simp only [ho, hx, hy, exA, e0, e1]
  go_simp
  by_cases h1 : Lg.exH z = 0 <;> by_cases h2 : Lg.exL z = 0 <;> simp [h1, h2] <;> omega
theorem exs_rng {w : World} {r k : Nat} {f : Nat → Int} (h : Blk w r 64 (exs f)) (hk : k < 7) : w.rangeAt r (0 + k * 2) (exA (f k)).toList := fun j v hj => by
  have hj2 : j < 2 := by
    have := (List.getElem?_eq_some_iff.1 hj).1
    simpa [exA] using this
  rw [h.cell, exs_at, if_pos (by omega)]
  rw [Array.getElem?_toList, exA_at _ _ hj2] at hj
  rw [← hj]
  congr 2
  · congr 1; omega
  · omega
def kN (p : Nat) : Nat → Prop := fun k => k = p
theorem acc_yes {n : Nat} {e : Ent} (h : 0 ≤ e.1 ∧ e.1 < (n : Int)) : (decide (0 ≤ e.1) && decide (e.1 < (n : Int))) = true := by simp; omega
theorem acc_not {n : Nat} {e : Ent} (h : ¬ (0 ≤ e.1 ∧ e.1 < (n : Int))) : (decide (0 ≤ e.1) && decide (e.1 < (n : Int))) = false := by simp; omega
theorem small_take {es : List Ent} (hw : ∀ e ∈ es, Mn.in64 e.1 ∧ Mn.in64 e.2) (i : Nat) : ∀ e ∈ es.take i, Mn.in64 e.2 := fun e he => (hw e (List.mem_of_mem_take he)).2
/-- what Post tells and makes -/
def PostP (w : World) (p n : Nat) (b : Nat → Int) (es : List Ent) (e : Ending) (w' : World) : Prop :=
  e = .returned (.int .i64 (Lg.postE n b es)) ∧ Led w' p n (Lg.postB n b es) ∧ Turn (only p) w w'
theorem PostP.bad {w w' : World} {p n : Nat} {b : Nat → Int} {es : List Ent} {c : Int} (h : Led w p n b) (hc : Lg.postE n b es = c) (h0 : c ≠ 0) (ht : Turn nowhere w w') : PostP w p n b es (.returned (.int .i64 c)) w' := by
  subst hc
  exact ⟨rfl, by rw [Lg.postB_bad h0]; exact h.still ht, ht.mono fun _ _ e => e.elim⟩
theorem led_store {n : Nat} {b g : Nat → Int} {C : Array Value} (hs : C.size = (ledA n b).size) (h : ∀ j, C[j]? = if 1 ≤ j ∧ j < 1 + (balA g).size then (balA g)[j - 1]? else (ledA n b)[j]?) : C = ledA n g := by
  have h8 : (balA g).size = 7 := rfl
  apply Array.ext_getElem?
  intro j
  rw [h, h8]
  match j with
  | 0 | 1 | 2 | 3 | 4 | 5 | 6 | 7 => rfl
  | j + 8 =>
    rw [if_neg (by omega), Array.getElem?_eq_none (by show 8 ≤ j + 8; omega), Array.getElem?_eq_none (by show 8 ≤ j + 8; omega)]
set_option maxRecDepth 20000 in
set_option maxHeartbeats 4000000 in
theorem Post_walk {w : World} {p n : Nat} {b : Nat → Int} {A : Option Addr} {m c : Nat} {es : List Ent} (h : Led w p n b) (he : EntAt w A m es) (hm : m ≤ 70368744177663) : Calls Try.prog 12 #[.pointer (some ⟨p, 0, none⟩), .slice A m c] w fun e w' => PostP w p n b es e w' := by
  have H := Lib.hid h
  have HE := Lib.hid he
  have HM := Lib.hid hm
  have HLEN := Lib.hid he.len
  have hn7 := h.ac
  have y7 : (n : Int) ≤ 7 := by omega
  have ym : (m : Int) ≤ 70368744177663 := by omega
  clear h he hm
  go_enter Try.func12, Try.ntmps12
  go_upto_region 0 with fail
  refine wp_region_lit ?_
  refine wpList_run (v := .int .i64 0) (wanted_none rfl) (gx_assign rfl rfl) ?_
  simp only [Act.put, List.setIfInBounds_toArray, List.set_cons_zero, List.set_cons_succ]
  go_upto_region 1 with fail
  refine wp_region_lit ?_
  refine wpList_run (v := .pointer (some ⟨(w).heap.size, 0, none⟩)) (w' := (w).alloc (.cells (exA 0) 63)) (wanted_none rfl) (gx_alloc rfl (zero_ex _)) ?_
  simp only [Act.put, List.setIfInBounds_toArray, List.set_cons_zero, List.set_cons_succ]
  have hb_q := Blk.new (w) 63 (exA 0)
  have ht_ := (Turn.refl nowhere (w)).alloc (.cells (exA 0) 63)
  obtain ⟨n0_, hn0_⟩ : ∃ n, n = (w).heap.size := ⟨_, rfl⟩
  have hz_q : (w).heap.size = n0_ + 0 := by rw [hn0_]; simp
  obtain ⟨q, hg_⟩ : ∃ g, g = (w).heap.size := ⟨_, rfl⟩
  rw [← hg_] at hb_q hz_q ⊢
  clear hg_
  generalize (w).alloc (.cells (exA 0) 63) = w1 at *
  have HT1 := Lib.hid ht_
  clear ht_
  have HBq := Lib.hid hb_q
  have HLq := Lib.hid (show (w).heap.size ≤ q from by omega)
  clear hb_q
  clear hn0_ hz_q
  clear n0_
  go_upto_region 2 with fail
  refine wp_region_lit ?_
  refine wpList_run (v := .pointer (some ⟨p, 0, none⟩)) (wanted_none rfl) (exec_move rfl rfl) ?_
  simp only [Act.put, List.setIfInBounds_toArray, List.set_cons_zero, List.set_cons_succ]
  refine wpList_run (v := .pointer (some ⟨p, 0, none⟩)) (wanted_none rfl) (exec_nil rfl rfl) ?_
  simp only [Act.put, List.setIfInBounds_toArray, List.set_cons_zero, List.set_cons_succ]
  refine wpList_run (v := .pointer (some ⟨p, 1, none⟩)) (wanted_none rfl) (exec_field (off := 0) (d := 1) rfl rfl (by kernel_rfl)) ?_
  simp only [Act.put, List.setIfInBounds_toArray, List.set_cons_zero, List.set_cons_succ]
  refine wpList_run (v := .agg (balA b)) (wanted_none rfl) (gx_loads rfl rfl (led_bal (H.out.still HT1.out)) Try.underlying58 rfl (by rw [size_bal]; rfl)) ?_
  simp only [Act.put, List.setIfInBounds_toArray, List.set_cons_zero, List.set_cons_succ]
  refine wpList_op rfl fun K9 HK9 => ?_
  go_wp2_with fail
  refine (exactly_walk w1 H.out.ok.1).mono ?_
  rintro e w2 ⟨rfl, ht⟩
  refine HK9.out _ _ ?_
  clear HK9
  try simp only [Act.put, List.setIfInBounds_toArray, List.set_cons_zero, List.set_cons_succ]
  have HT2 := Lib.hid (HT1.out.trans ht fun _ _ e => e)
  have HBq2 := Lib.hid (HBq.out.turn ht fun e => e)
  clear ht HBq
  refine wpList_run (v := .pointer (some ⟨w2.heap.size, 0, none⟩)) (w' := w2.alloc (.cells (exs fun _ => 0) 64)) (wanted_none rfl) (gx_alloc rfl (zero_exs _)) ?_
  simp only [Act.put, List.setIfInBounds_toArray, List.set_cons_zero, List.set_cons_succ]
  have hb_ := Blk.new w2 64 (exs fun _ => 0)
  have ht_ := (Turn.refl nowhere w2).alloc (.cells (exs fun _ => 0) 64)
  obtain ⟨r, hg_⟩ : ∃ g, g = w2.heap.size := ⟨_, rfl⟩
  rw [← hg_] at hb_ ⊢
  have HLr := Lib.hid (show w2.heap.size ≤ r from by omega)
  clear hg_
  generalize w2.alloc (.cells (exs fun _ => 0) 64) = w3 at *
  have HBr := Lib.hid hb_
  have HT3 := Lib.hid ht_
  clear hb_ ht_
  refine wpList_store_row (wanted_none rfl) 64 (.tmp 6) (.tmp 15) rfl (exs b) HBr.out rfl rfl (by rw [exs_size, exs_size]) (by rw [size_exs] <;> rfl) (exs_one _) ?_
  intro w4 hb_ ht_
  have HBr4 := Lib.hid hb_
  have HT4 := Lib.hid ht_
  clear hb_ ht_
  simp only [Act.put, List.setIfInBounds_toArray, List.set_cons_zero, List.set_cons_succ]
  have HT34 := Lib.hid (HT3.out.trans HT4.out fun k hk e => by have := HLr.out; have e : k = r := e; omega)
  have HT4w := Lib.hid (HT2.out.trans HT34.out fun _ _ e => e)
  have HBq4 := Lib.hid (HBq2.out.turn HT34.out fun e => e)
  have HLr4 := Lib.hid (show w.heap.size ≤ r from Nat.le_trans HT2.out.size HLr.out)
  have HNqr := Lib.hid (show q ≠ r from by have := HBq2.out.lt; have := HLr.out; omega)
  clear HBr HT3 HT4 HT34 HBq2
  go_upto_region 3 with fail
  refine wp_region_lit ?_
  refine wpList_run (v := .slice A m c) (wanted_none rfl) (exec_move rfl rfl) ?_
  simp only [Act.put, List.setIfInBounds_toArray, List.set_cons_zero, List.set_cons_succ]
  refine wpList_run (v := .int .i64 (m : Int)) (wanted_none rfl) (gx_len rfl rfl Try.underlying35) ?_
  simp only [Act.put, List.setIfInBounds_toArray, List.set_cons_zero, List.set_cons_succ]
  refine wpList_run (v := .int .i64 0) (wanted_none rfl) (exec_move rfl rfl) ?_
  simp only [Act.put, List.setIfInBounds_toArray, List.set_cons_zero, List.set_cons_succ]
  go_wp2_with fail
  go_loopg [18] m (fun gk iv wr => ∃ i : Nat, iv = .int .i64 (i : Int) ∧ i + gk = m ∧ Lg.accB n (es.take i) = true ∧ Blk wr q 63 (exA (Lg.tot (es.take i))) ∧ Blk wr r 64 (exs fun a => b a + Lg.of (a : Int) (es.take i)) ∧ Turn nowhere w wr)
  case atStart => exact ⟨0, rfl, by omega, rfl, HBq4.out, by
    have e : (fun a : Nat => b a + Lg.of (a : Int) (es.take 0)) = b := by funext a; rw [List.take_zero, Lg.of_nil]; omega
    rw [e]; exact HBr4.out, HT4w.out⟩
  obtain ⟨i, rfl, hgk, hacc, hbq, hbr, htr⟩ := hrel
  have HGK := Lib.hid hgk
  have HACC := Lib.hid hacc
  have HBQ := Lib.hid hbq
  have HBR := Lib.hid hbr
  have HTR := Lib.hid htr
  have yi : (i : Int) ≤ (m : Int) := by omega
  clear hgk hacc hbq hbr htr
  by_cases hlt : i < m
  · have HLT := Lib.hid hlt
    have y3 : (i : Int) < (m : Int) := by omega
    obtain ⟨e, hei⟩ := ent_some HLEN.out hlt
    have HEI := Lib.hid hei
    have HEW := Lib.hid (HE.out.wf e (List.mem_of_getElem? hei))
    obtain ⟨b1, o1, e1, h1⟩ := (HE.out.still HTR.out).rng hei
    have HRR := Lib.hid h1
    subst e1
    clear h1 hei hlt
    go_upto_region 4 with fail
    refine wp_region_lit ?_
    refine wpList_run (v := .bool true) (wanted_none rfl) (ix_lss rfl rfl rfl (decide_eq_true y3)) ?_
    simp only [Act.put, List.setIfInBounds_toArray, List.set_cons_zero, List.set_cons_succ]
    go_upto_region 5 with fail
    refine wp_region_lit ?_
    refine wpList_run (v := .pointer (some ⟨b1, o1 + i * 2, none⟩)) (wanted_none rfl) (gx_iaddr (i := i) (sz := 2) rfl rfl rfl Try.underlying35 size_ent HLT.out rfl) ?_
    simp only [Act.put, List.setIfInBounds_toArray, List.set_cons_zero, List.set_cons_succ]
    refine wpList_run (v := .agg (entA e)) (wanted_none rfl) (gx_loads rfl rfl HRR.out Try.underlying57 rfl (by rw [size_ent]; rfl)) ?_
    simp only [Act.put, List.setIfInBounds_toArray, List.set_cons_zero, List.set_cons_succ]
    refine wpList_run (v := .pointer (some ⟨wr.heap.size, 0, none⟩)) (w' := wr.alloc (.cells (entA (0, 0)) 57)) (wanted_none rfl) (gx_alloc rfl (zero_ent _)) ?_
    simp only [Act.put, List.setIfInBounds_toArray, List.set_cons_zero, List.set_cons_succ]
    have hb_ := Blk.new wr 57 (entA (0, 0))
    have ht_ := (Turn.refl nowhere wr).alloc (.cells (entA (0, 0)) 57)
    obtain ⟨x, hg_⟩ : ∃ g, g = wr.heap.size := ⟨_, rfl⟩
    rw [← hg_] at hb_ ⊢
    have HLx := Lib.hid (show wr.heap.size ≤ x from by omega)
    clear hg_
    generalize wr.alloc (.cells (entA (0, 0)) 57) = w5 at *
    have HBx := Lib.hid hb_
    have HT5 := Lib.hid ht_
    clear hb_ ht_
    refine wpList_store_row (wanted_none rfl) 57 (.tmp 8) (.tmp 21) rfl (entA e) HBx.out rfl rfl (rfl) (by rw [size_ent] <;> rfl) (entA_one _) ?_
    intro w6 hb_ ht_
    have HBx6 := Lib.hid hb_
    have HT6 := Lib.hid ht_
    clear hb_ ht_
    simp only [Act.put, List.setIfInBounds_toArray, List.set_cons_zero, List.set_cons_succ]
    have HT56 := Lib.hid (HT5.out.trans HT6.out fun k hk e => by have := HLx.out; have e : k = x := e; omega)
    have HT6w := Lib.hid (HTR.out.trans HT56.out fun _ _ e => e)
    have HBQ6 := Lib.hid (HBQ.out.turn HT56.out fun e => e)
    have HBR6 := Lib.hid (HBR.out.turn HT56.out fun e => e)
    clear HBx HT5 HT6 HT56 HRR
    go_upto_region 6 with fail
    refine wp_region_lit ?_
    refine wpList_run (v := .pointer (some ⟨p, 0, none⟩)) (wanted_none rfl) (exec_move rfl rfl) ?_
    simp only [Act.put, List.setIfInBounds_toArray, List.set_cons_zero, List.set_cons_succ]
    refine wpList_run (v := .pointer (some ⟨x, 0, none⟩)) (wanted_none rfl) (exec_field (off := 0) (d := 0) rfl rfl (by kernel_rfl)) ?_
    simp only [Act.put, List.setIfInBounds_toArray, List.set_cons_zero, List.set_cons_succ]
    refine wpList_run (v := .int .i64 e.1) (wanted_none rfl) (exec_load1 rfl rfl (by kernel_rfl) (HBx6.out.cell 0)) ?_
    simp only [Act.put, List.setIfInBounds_toArray, List.set_cons_zero, List.set_cons_succ]
    refine wpList_op rfl fun K9 HK9 => ?_
    go_wp2_with fail
    refine (has_walk (H.out.still HT6w.out)).mono ?_
    rintro e w6 ⟨rfl, rfl⟩
    refine HK9.out _ _ ?_
    clear HK9
    try simp only [Act.put, List.setIfInBounds_toArray, List.set_cons_zero, List.set_cons_succ]
    by_cases hin : 0 ≤ e.1 ∧ e.1 < (n : Int)
    · obtain ⟨k, hk⟩ := Int.eq_ofNat_of_zero_le hin.1
      have hk7 : k < 7 := by omega
      have HK := Lib.hid hk
      have HK7 := Lib.hid hk7
      have HIN := Lib.hid hin
      rw [acc_yes hin]
      clear hin hk hk7
      refine wpList_run (v := .bool false) (wanted_none rfl) (ix_not (b := true) rfl rfl) ?_
      simp only [Act.put, List.setIfInBounds_toArray, List.set_cons_zero, List.set_cons_succ]
      go_upto_region 8 with fail
      refine wp_region_lit ?_
      refine wpList_run (v := .agg (exA (Lg.tot (es.take i)))) (wanted_none rfl) (gx_loads rfl rfl (blk_range HBQ6.out) Try.underlying63 rfl (by rw [size_ex]; rfl)) ?_
      simp only [Act.put, List.setIfInBounds_toArray, List.set_cons_zero, List.set_cons_succ]
      refine wpList_run (v := .pointer (some ⟨x, 1, none⟩)) (wanted_none rfl) (exec_field (off := 0) (d := 1) rfl rfl (by kernel_rfl)) ?_
      simp only [Act.put, List.setIfInBounds_toArray, List.set_cons_zero, List.set_cons_succ]
      refine wpList_run (v := .int .i64 e.2) (wanted_none rfl) (exec_load1 rfl rfl (by kernel_rfl) (HBx6.out.cell 1)) ?_
      simp only [Act.put, List.setIfInBounds_toArray, List.set_cons_zero, List.set_cons_succ]
      refine wpList_op rfl fun K9 HK9 => ?_
      go_wp2_with fail
      refine (plus_walk w6 HEW.out.2).mono ?_
      rintro e w7 ⟨rfl, ht⟩
      refine HK9.out _ _ ?_
      clear HK9
      try simp only [Act.put, List.setIfInBounds_toArray, List.set_cons_zero, List.set_cons_succ]
      have HBQ7 := Lib.hid (HBQ6.out.turn ht fun e => e)
      have HBR7 := Lib.hid (HBR6.out.turn ht fun e => e)
      have HBx7 := Lib.hid (HBx6.out.turn ht fun e => e)
      have HT7w := Lib.hid (HT6w.out.trans ht fun _ _ e => e)
      have HLx7 := Lib.hid (show wr.heap.size ≤ x from HLx.out)
      have HNxq := Lib.hid (show x ≠ q from by have := HBQ.out.lt; have := HLx.out; omega)
      have HNxr := Lib.hid (show x ≠ r from by have := HBR.out.lt; have := HLx.out; omega)
      clear ht HBQ6 HBR6 HBx6 HT6w
      refine wpList_store_row (wanted_none rfl) 63 (.tmp 5) (.tmp 30) rfl (exA (Lg.tot (es.take i) + e.2)) HBQ7.out rfl rfl (rfl) (by rw [size_ex] <;> rfl) (exA_one _) ?_
      intro w8 hb_ ht_
      have HBQ8 := Lib.hid hb_
      have HT8 := Lib.hid ht_
      clear hb_ ht_
      simp only [Act.put, List.setIfInBounds_toArray, List.set_cons_zero, List.set_cons_succ]
      have HBR8 := Lib.hid (HBR7.out.turn (F := only q) HT8.out fun e => HNqr.out (show r = q from e).symm)
      have HBx8 := Lib.hid (HBx7.out.turn (F := only q) HT8.out fun e => HNxq.out e)
      have HT8w := Lib.hid (HT7w.out.trans HT8.out fun k hk e => by have := HLq.out; have e : k = q := e; omega)
      clear HBR7 HBx7 HT7w HT8 HBQ7
      go_upto_region 9 with fail
      refine wp_region_alw (fun W => Blk W x 57 (entA e)) (by kernel_rfl) ?_
      have hS0 : (fun W => Blk W x 57 (entA e)) w8.drew := HBx8.out.drew
      have HD := Lib.hid ((Turn.refl nowhere w8).drew)
      generalize w8.drew = wd at *
      have HBQd := Lib.hid (HBQ8.out.turn HD.out fun e => e)
      have HBRd := Lib.hid (HBR8.out.turn HD.out fun e => e)
      have HTd := Lib.hid (HT8w.out.trans HD.out fun _ _ e => e)
      clear HBQ8 HBR8 HT8w HBx8 HD
      refine alw_take (i := 0) (v := .pointer (some ⟨x, 0, none⟩)) rfl (by kernel_rfl) (by kernel_rfl) (fun _ _ _ h => h) (.inl ⟨by rfl, fun W hW => exec_field (off := 0) (d := 0) rfl rfl (by kernel_rfl)⟩) hS0 ?_
      simp only [Act.put, List.setIfInBounds_toArray, List.set_cons_zero, List.set_cons_succ]
      refine alw_take (i := 1) (v := .int .i64 (k : Int)) rfl (by kernel_rfl) (by kernel_rfl) (fun _ _ _ h => h) (.inl ⟨by rfl, fun W hW => exec_load1 rfl rfl (by kernel_rfl) (hW.cell 0 |>.trans (by rw [← HK.out]; rfl))⟩) hS0 ?_
      simp only [Act.put, List.setIfInBounds_toArray, List.set_cons_zero, List.set_cons_succ]
      refine alw_take (i := 2) (v := .pointer (some ⟨x, 0, none⟩)) rfl (by kernel_rfl) (by kernel_rfl) (fun _ _ _ h => h) (.inl ⟨by rfl, fun W hW => exec_field (off := 0) (d := 0) rfl rfl (by kernel_rfl)⟩) hS0 ?_
      simp only [Act.put, List.setIfInBounds_toArray, List.set_cons_zero, List.set_cons_succ]
      refine alw_take (i := 3) (v := .int .i64 (k : Int)) rfl (by kernel_rfl) (by kernel_rfl) (fun _ _ _ h => h) (.inl ⟨by rfl, fun W hW => exec_load1 rfl rfl (by kernel_rfl) (hW.cell 0 |>.trans (by rw [← HK.out]; rfl))⟩) hS0 ?_
      simp only [Act.put, List.setIfInBounds_toArray, List.set_cons_zero, List.set_cons_succ]
      refine alw_take (i := 4) (v := .pointer (some ⟨r, 0 + k * 2, none⟩)) rfl (by kernel_rfl) (by kernel_rfl) (fun _ _ _ h => h) (.inl ⟨by rfl, fun W hW => gx_aaddr (i := k) (sz := 2) rfl rfl rfl Try.underlying64 size_ex HK7.out rfl⟩) hS0 ?_
      simp only [Act.put, List.setIfInBounds_toArray, List.set_cons_zero, List.set_cons_succ]
      refine alw_take (i := 6) (v := .pointer (some ⟨x, 1, none⟩)) rfl (by kernel_rfl) (by kernel_rfl) (fun _ _ _ h => h) (.inl ⟨by rfl, fun W hW => exec_field (off := 0) (d := 1) rfl rfl (by kernel_rfl)⟩) hS0 ?_
      simp only [Act.put, List.setIfInBounds_toArray, List.set_cons_zero, List.set_cons_succ]
      refine alw_take (i := 7) (v := .int .i64 e.2) rfl (by kernel_rfl) (by kernel_rfl) (fun _ _ _ h => h) (.inl ⟨by rfl, fun W hW => exec_load1 rfl rfl (by kernel_rfl) (hW.cell 1)⟩) hS0 ?_
      simp only [Act.put, List.setIfInBounds_toArray, List.set_cons_zero, List.set_cons_succ]
      refine alw_step (i := 5) (by kernel_rfl) rfl rfl ?_
      intro K1 HK1
      refine wp_run (v := .agg (exA (b k + Lg.of (k : Int) (es.take i)))) (gx_loads rfl rfl (show wd.rangeAt r (0 + k * 2) (exA (b k + Lg.of (k : Int) (es.take i))).toList from exs_rng HBRd.out HK7.out) Try.underlying63 rfl (by rw [size_ex]; rfl)) ?_
      refine HK1.out _ _ ⟨hS0, ?_⟩
      clear HK1
      try simp only [Act.put, List.setIfInBounds_toArray, List.set_cons_zero, List.set_cons_succ]
      refine alw_step (i := 8) (by kernel_rfl) rfl rfl ?_
      intro K1 HK1
      go_wp2_with fail
      refine (plus_walk wd HEW.out.2).mono ?_
      rintro e w9 ⟨rfl, ht⟩
      have hS1 := hS0.turn ht (fun e => e)
      refine HK1.out _ _ ⟨hS0.turn ht (fun e => e), ?_⟩
      clear HK1
      try simp only [Act.put, List.setIfInBounds_toArray, List.set_cons_zero, List.set_cons_succ]
      refine alw_take (i := 9) (v := .pointer (some ⟨r, 0 + k * 2, none⟩)) rfl (by kernel_rfl) (by kernel_rfl) (fun _ _ _ h => h) (.inl ⟨by rfl, fun W hW => gx_aaddr (i := k) (sz := 2) rfl rfl rfl Try.underlying64 size_ex HK7.out rfl⟩) hS1 ?_
      simp only [Act.put, List.setIfInBounds_toArray, List.set_cons_zero, List.set_cons_succ]
      have HBQ9 := Lib.hid (HBQd.out.turn ht fun e => e)
      have HBR9 := Lib.hid (HBRd.out.turn ht fun e => e)
      have HT9w := Lib.hid (HTd.out.trans ht fun _ _ e => e)
      clear ht HBQd HBRd HTd
      refine alw_step (i := 10) (by kernel_rfl) rfl rfl ?_
      intro K1 HK1
      refine wp_store_midU 63 (.tmp 40) (.tmp 39) rfl (exA (b k + Lg.of (k : Int) (es.take i) + e.2)) HBR9.out rfl rfl (by rw [exs_size]; have := HK7.out; show 0 + k * 2 + 2 ≤ 14; omega) (by rw [size_ex]; rfl) (exA_one _) ?_
      intro wa Ca hba hsa hca hta
      obtain rfl := exs_set HK7.out hsa hca
      refine HK1.out _ _ ⟨hS1.turn (F := only r) hta (fun e => HNxr.out e), ?_⟩
      clear HK1
      try simp only [Act.put, List.setIfInBounds_toArray, List.set_cons_zero, List.set_cons_succ]
      have htk := Lg.take_snoc HEI.out
      have HQa := Lib.hid (show Blk wa q 63 (exA (Lg.tot (es.take (i + 1)))) from by
        rw [htk, Lg.tot_snoc]; exact HBQ9.out.turn (F := only r) hta fun e => HNqr.out e)
      have HRa := Lib.hid (show Blk wa r 64 (exs fun a => b a + Lg.of (a : Int) (es.take (i + 1))) from by
        have e2 : (fun a : Nat => b a + Lg.of (a : Int) (es.take (i + 1))) = fun a : Nat => if a = k then b k + Lg.of (k : Int) (es.take i) + e.2 else b a + Lg.of (a : Int) (es.take i) := by
          funext a
          rw [htk, Lg.of_snoc, HK.out]
          by_cases c : a = k
          · subst c; rw [if_pos rfl, if_pos rfl]; omega
          · rw [if_neg c, if_neg (by omega)]; omega
        rw [e2]; exact hba)
      have HAa := Lib.hid (show Lg.accB n (es.take (i + 1)) = true from by rw [htk]; exact acc_snoc HACC.out HIN.out)
      have HTa := Lib.hid (HT9w.out.trans hta fun k hk e => by have := HLr4.out; have e : k = r := e; omega)
      clear hba hsa hca hta htk hS1
      refine alw_done rfl ?_
      refine NoPanic.normal ?_
      go_upto_region 10 with fail
      refine wp_region_lit ?_
      refine wpList_run (v := .int .i64 ((i + 1 : Nat) : Int)) (wanted_none rfl) (ix_add rfl rfl rfl (by omega) (by omega)) ?_
      simp only [Act.put, List.setIfInBounds_toArray, List.set_cons_zero, List.set_cons_succ]
      refine wpList_run (v := .int .i64 ((i + 1 : Nat) : Int)) (wanted_none rfl) (exec_move rfl rfl) ?_
      simp only [Act.put, List.setIfInBounds_toArray, List.set_cons_zero, List.set_cons_succ]
      go_wp2_with fail
      go_roundg (m - (i + 1))
      case measure => have := HGK.out; have := HLT.out; omega
      case rel => exact ⟨i + 1, rfl, by have := HLT.out; omega, HAa.out, HQa.out, HRa.out, HTa.out⟩
    · have HPE := Lib.hid (post_acc (i := i) (b := b) HEI.out hin)
      rw [acc_not hin]
      clear hin
      refine wpList_run (v := .bool true) (wanted_none rfl) (ix_not (b := false) rfl rfl) ?_
      simp only [Act.put, List.setIfInBounds_toArray, List.set_cons_zero, List.set_cons_succ]
      go_upto_region 7 with fail
      refine wp_region_lit ?_
      refine wpList_run (v := .int .i64 121) (wanted_none rfl) (gx_assign rfl rfl) ?_
      simp only [Act.put, List.setIfInBounds_toArray, List.set_cons_zero, List.set_cons_succ]
      go_wp2_with fail
      go_ret
      exact PostP.bad H.out HPE.out (by decide) HT6w.out
  · obtain rfl : i = m := by omega
    have htk : es.take i = es := List.take_of_length_le (by rw [← HLEN.out]; omega)
    have HACCz := Lib.hid (show Lg.accB n es = true from by have := HACC.out; rwa [htk] at this)
    have HBQz := Lib.hid (show Blk wr q 63 (exA (Lg.tot es)) from by have := HBQ.out; rwa [htk] at this)
    have HBRz := Lib.hid (show Blk wr r 64 (exs fun a => b a + Lg.of (a : Int) es) from by have := HBR.out; rwa [htk] at this)
    have HSM := Lib.hid (Lg.small_tot (fun e he => (HE.out.wf e he).2) (by rw [← HLEN.out]; have := HM.out; omega))
    clear hlt htk HACC HBQ HBR
    go_upto_region 4 with fail
    refine wp_region_lit ?_
    refine wpList_run (v := .bool false) (wanted_none rfl) (ix_lss rfl rfl rfl (by simp)) ?_
    simp only [Act.put, List.setIfInBounds_toArray, List.set_cons_zero, List.set_cons_succ]
    by_cases hz : Lg.tot es = 0
    · have HPF := Lib.hid (post_fit H.out.ac.2 H.out.ok HACCz.out hz)
      have HZ := Lib.hid hz
      clear hz
      obtain ⟨f, hf⟩ : ∃ f, f = fun a : Nat => b a + Lg.of (a : Int) es := ⟨_, rfl⟩
      have HBRf := Lib.hid (show Blk wr r 64 (exs f) from by rw [hf]; exact HBRz.out)
      have HPF := Lib.hid (show Lg.postE n b es = fitE f from by rw [hf]; exact HPF.out)
      have HFS := Lib.hid (show ∀ a, a < 7 → Lg.Small (f a) from fun a _ => by rw [hf]; exact Lg.small_bal (H.out.ok.1 a) (fun e he => (HE.out.wf e he).2) (by rw [← HLEN.out]; exact HM.out) _)
      have HF := Lib.hid hf
      clear hf HBRz
      go_upto_region 11 with fail
      refine wp_region_lit ?_
      refine wpList_run (v := .agg (exA (Lg.tot es))) (wanted_none rfl) (gx_loads rfl rfl (blk_range HBQz.out) Try.underlying63 rfl (by rw [size_ex]; rfl)) ?_
      simp only [Act.put, List.setIfInBounds_toArray, List.set_cons_zero, List.set_cons_succ]
      refine wpList_run (v := .agg (exA 0)) (wanted_none rfl) (gx_build0 rfl (build_ex0 _)) ?_
      simp only [Act.put, List.setIfInBounds_toArray, List.set_cons_zero, List.set_cons_succ]
      refine wpList_run (v := .bool false) (wanted_none rfl) (ex_neq rfl rfl rfl HSM.out (by rw [HZ.out]; rfl)) ?_
      simp only [Act.put, List.setIfInBounds_toArray, List.set_cons_zero, List.set_cons_succ]
      go_upto_region 13 with fail
      refine wp_region_lit ?_
      refine wpList_run (v := .agg (exs f)) (wanted_none rfl) (gx_loads rfl rfl (blk_range HBRf.out) Try.underlying64 rfl (by rw [size_exs]; rfl)) ?_
      simp only [Act.put, List.setIfInBounds_toArray, List.set_cons_zero, List.set_cons_succ]
      refine wpList_op rfl fun K9 HK9 => ?_
      go_wp2_with fail
      refine (fitted_walk wr HFS.out).mono ?_
      rintro e w5 ⟨rfl, ht⟩
      refine HK9.out _ _ ?_
      clear HK9
      try simp only [Act.put, List.setIfInBounds_toArray, List.set_cons_zero, List.set_cons_succ]
      have HT5w := Lib.hid (HTR.out.trans ht fun _ _ e => e)
      clear ht
      refine wpList_run (v := .tuple #[.agg (balA (fitG f)), .int .i64 (fitE f)]) (wanted_none rfl) (exec_move rfl rfl) ?_
      simp only [Act.put, List.setIfInBounds_toArray, List.set_cons_zero, List.set_cons_succ]
      refine wpList_run (v := .agg (balA (fitG f))) (wanted_none rfl) (ix_extract rfl rfl rfl) ?_
      simp only [Act.put, List.setIfInBounds_toArray, List.set_cons_zero, List.set_cons_succ]
      refine wpList_run (v := .int .i64 (fitE f)) (wanted_none rfl) (ix_extract rfl rfl rfl) ?_
      simp only [Act.put, List.setIfInBounds_toArray, List.set_cons_zero, List.set_cons_succ]
      refine wpList_run (v := .pointer (some ⟨w5.heap.size, 0, none⟩)) (w' := w5.alloc (.cells (balA fun _ => 0) 58)) (wanted_none rfl) (gx_alloc rfl (zero_bal _)) ?_
      simp only [Act.put, List.setIfInBounds_toArray, List.set_cons_zero, List.set_cons_succ]
      have hb_ := Blk.new w5 58 (balA fun _ => 0)
      have ht_ := (Turn.refl nowhere w5).alloc (.cells (balA fun _ => 0) 58)
      obtain ⟨y, hg_⟩ : ∃ g, g = w5.heap.size := ⟨_, rfl⟩
      rw [← hg_] at hb_ ⊢
      have HLy := Lib.hid (show w5.heap.size ≤ y from by omega)
      clear hg_
      generalize w5.alloc (.cells (balA fun _ => 0) 58) = w6 at *
      have HBy := Lib.hid hb_
      have HT6 := Lib.hid ht_
      clear hb_ ht_
      refine wpList_store_row (wanted_none rfl) 58 (.tmp 9) (.tmp 48) rfl (balA (fitG f)) HBy.out rfl rfl (rfl) (by rw [size_bal] <;> rfl) (balA_one _) ?_
      intro w7 hb_ ht_
      have HBy7 := Lib.hid hb_
      have HT7 := Lib.hid ht_
      clear hb_ ht_
      simp only [Act.put, List.setIfInBounds_toArray, List.set_cons_zero, List.set_cons_succ]
      have HT7w := Lib.hid (HT5w.out.trans (HT6.out.trans HT7.out fun k hk e => by have := HLy.out; have e : k = y := e; omega) fun _ _ e => e)
      clear HT5w HT6 HT7 HBy
      refine wpList_run (v := .int .i64 (fitE f)) (wanted_none rfl) (gx_assign rfl rfl) ?_
      simp only [Act.put, List.setIfInBounds_toArray, List.set_cons_zero, List.set_cons_succ]
      cases hft : fit7 f with
      | true =>
        have HFE := Lib.hid (show fitE f = 0 from if_pos hft)
        have HFG := Lib.hid (show fitG f = f from if_pos hft)
        clear hft
        have HYL := Lib.hid (show Blk w7 y 58 (balA f) from by rw [← HFG.out]; exact HBy7.out)
        have HL7 := Lib.hid (H.out.still HT7w.out)
        go_upto_region 14 with fail
        refine wp_region_lit ?_
        refine wpList_run (v := .int .i64 (fitE f)) (wanted_none rfl) (exec_move rfl rfl) ?_
        simp only [Act.put, List.setIfInBounds_toArray, List.set_cons_zero, List.set_cons_succ]
        refine wpList_run (v := .bool false) (wanted_none rfl) (ix_neq rfl rfl rfl (by rw [HFE.out]; rfl)) ?_
        simp only [Act.put, List.setIfInBounds_toArray, List.set_cons_zero, List.set_cons_succ]
        go_upto_region 16 with fail
        refine wp_region_lit ?_
        refine wpList_run (v := .pointer (some ⟨p, 0, none⟩)) (wanted_none rfl) (exec_move rfl rfl) ?_
        simp only [Act.put, List.setIfInBounds_toArray, List.set_cons_zero, List.set_cons_succ]
        refine wpList_run (v := .agg (balA f)) (wanted_none rfl) (gx_loads rfl rfl (blk_range HYL.out) Try.underlying58 rfl (by rw [size_bal]; rfl)) ?_
        simp only [Act.put, List.setIfInBounds_toArray, List.set_cons_zero, List.set_cons_succ]
        refine wpList_run (v := .pointer (some ⟨p, 0, none⟩)) (wanted_none rfl) (exec_nil rfl rfl) ?_
        simp only [Act.put, List.setIfInBounds_toArray, List.set_cons_zero, List.set_cons_succ]
        refine wpList_run (v := .pointer (some ⟨p, 1, none⟩)) (wanted_none rfl) (exec_field (off := 0) (d := 1) rfl rfl (by kernel_rfl)) ?_
        simp only [Act.put, List.setIfInBounds_toArray, List.set_cons_zero, List.set_cons_succ]
        refine wpList_store_mid rfl 58 (.tmp 56) (.tmp 54) rfl (balA f) HL7.out.blk rfl rfl (Nat.le_refl 8) (by rw [size_bal]; rfl) (balA_one _) ?_
        intro w8 C8 hb8 hs8 hc8 ht8
        obtain rfl := led_store hs8 hc8
        have HB8 := Lib.hid hb8
        have HT8 := Lib.hid ht8
        clear hb8 hs8 hc8 ht8
        simp only [Act.put, List.setIfInBounds_toArray, List.set_cons_zero, List.set_cons_succ]
        go_upto_region 17 with fail
        refine wp_region_lit ?_
        refine wpList_run (v := .int .i64 0) (wanted_none rfl) (gx_assign rfl rfl) ?_
        simp only [Act.put, List.setIfInBounds_toArray, List.set_cons_zero, List.set_cons_succ]
        go_wp2_with fail
        go_ret
        have e0 : Lg.postE n b es = 0 := HPF.out.trans HFE.out
        have eB : Lg.postB n b es = f := by rw [Lg.postB_ok e0]; exact HF.out.symm
        exact ⟨by rw [e0]; rfl, ⟨by rw [eB]; exact HB8.out, H.out.ac, Lg.okb_post H.out.ok es⟩, (HT7w.out.mono fun _ _ e => e.elim).trans HT8.out fun _ _ e => e⟩
      | false =>
        have HFE := Lib.hid (show fitE f = 100 from if_neg (by rw [hft]; decide))
        clear hft
        go_upto_region 14 with fail
        refine wp_region_lit ?_
        refine wpList_run (v := .int .i64 (fitE f)) (wanted_none rfl) (exec_move rfl rfl) ?_
        simp only [Act.put, List.setIfInBounds_toArray, List.set_cons_zero, List.set_cons_succ]
        refine wpList_run (v := .bool true) (wanted_none rfl) (ix_neq rfl rfl rfl (by rw [HFE.out]; rfl)) ?_
        simp only [Act.put, List.setIfInBounds_toArray, List.set_cons_zero, List.set_cons_succ]
        go_upto_region 15 with fail
        refine wp_region_lit ?_
        refine wpList_run (v := .int .i64 (fitE f)) (wanted_none rfl) (exec_move rfl rfl) ?_
        simp only [Act.put, List.setIfInBounds_toArray, List.set_cons_zero, List.set_cons_succ]
        refine wpList_run (v := .int .i64 (fitE f)) (wanted_none rfl) (gx_assign rfl rfl) ?_
        simp only [Act.put, List.setIfInBounds_toArray, List.set_cons_zero, List.set_cons_succ]
        go_wp2_with fail
        go_ret
        rw [HFE.out]
        exact PostP.bad H.out (HPF.out.trans HFE.out) (by decide) HT7w.out
    · have HPE := Lib.hid (post_sum (b := b) HACCz.out hz)
      have HZ := Lib.hid hz
      clear hz
      go_upto_region 11 with fail
      refine wp_region_lit ?_
      refine wpList_run (v := .agg (exA (Lg.tot es))) (wanted_none rfl) (gx_loads rfl rfl (blk_range HBQz.out) Try.underlying63 rfl (by rw [size_ex]; rfl)) ?_
      simp only [Act.put, List.setIfInBounds_toArray, List.set_cons_zero, List.set_cons_succ]
      refine wpList_run (v := .agg (exA 0)) (wanted_none rfl) (gx_build0 rfl (build_ex0 _)) ?_
      simp only [Act.put, List.setIfInBounds_toArray, List.set_cons_zero, List.set_cons_succ]
      refine wpList_run (v := .bool true) (wanted_none rfl) (ex_neq rfl rfl rfl HSM.out (decide_eq_true HZ.out)) ?_
      simp only [Act.put, List.setIfInBounds_toArray, List.set_cons_zero, List.set_cons_succ]
      go_upto_region 12 with fail
      refine wp_region_lit ?_
      refine wpList_run (v := .int .i64 120) (wanted_none rfl) (gx_assign rfl rfl) ?_
      simp only [Act.put, List.setIfInBounds_toArray, List.set_cons_zero, List.set_cons_succ]
      go_wp2_with fail
      go_ret
      exact PostP.bad H.out HPE.out (by decide) HTR.out
end Go.Proofs.Ythoefjaapjaeeaa
