/-
  Ledgers in memory: New, Clone, Len, has, Balance, Post: the walks. No conditions.
-/
import Derived.Test.YthoefjaapjaeeaaLgE
namespace Go.Proofs.Ythoefjaapjaeeaa
open Go.RowKit
open Lg (Ent)
set_option linter.unusedVariables false
set_option linter.unusedSimpArgs false
def ledA (n : Nat) (b : Nat → Int) : Array Value := #[.int .i64 (n : Int), .int .i64 (b 0), .int .i64 (b 1), .int .i64 (b 2), .int .i64 (b 3), .int .i64 (b 4), .int .i64 (b 5), .int .i64 (b 6)]
theorem ledA_at (n : Nat) (b : Nat → Int) (j : Nat) (hj : j < 7) : (ledA n b)[1 + j]? = some (.int .i64 (b j)) := by
  match j, hj with
  | 0, _ | 1, _ | 2, _ | 3, _ | 4, _ | 5, _ | 6, _ => rfl
theorem ledA_one (n : Nat) (b : Nat → Int) : ∀ v ∈ (ledA n b).toList, v.oneCell' = true := fun v hv => by
  simp only [ledA, List.mem_cons, List.not_mem_nil, or_false] at hv
  rcases hv with rfl | rfl | rfl | rfl | rfl | rfl | rfl | rfl <;> rfl
/-- a ledger in memory -/
structure Led (w : World) (p n : Nat) (b : Nat → Int) : Prop where
  blk : Blk w p 60 (ledA n b)
  ac : 1 ≤ n ∧ n ≤ 7
  ok : Lg.Okb n b
theorem Led.turn {w w' : World} {p n : Nat} {b : Nat → Int} {F : Nat → Prop} (h : Led w p n b) (ht : Turn F w w') (hn : ¬ F p) : Led w' p n b := ⟨h.blk.turn ht hn, h.ac, h.ok⟩
theorem Led.still {w w' : World} {p n : Nat} {b : Nat → Int} (h : Led w p n b) (ht : Turn nowhere w w') : Led w' p n b := h.turn ht fun e => e
theorem led_bal {w : World} {p n : Nat} {b : Nat → Int} (h : Led w p n b) : w.rangeAt p 1 (balA b).toList := fun j v hj => by
  rw [h.blk.cell (1 + j)]
  rw [Array.getElem?_toList, balA_at] at hj
  split at hj
  · rw [ledA_at n b j (by assumption)]; exact hj
  · cases hj
theorem size_led : (Try.prog.info? 60).map (·.size) = some 8 := by kernel_rfl
theorem zero_led (w : World) : (zeroValue 60).run Try.prog w = .ok (.agg (ledA 0 fun _ => 0)) w := by kernel_rfl
theorem build_led (n : Nat) (W : World) : (Instr.build 60 #[(0, .int .i64 (n : Int))]).run Try.prog W = .ok (.agg (ledA n fun _ => 0)) W := by kernel_rfl
theorem box_led (n : Nat) (b : Nat → Int) (w : World) : (Instr.box 60 (.agg (ledA n b))).run Try.prog w = .ok (.pointer (some ⟨w.heap.size, 0, none⟩)) (w.alloc (.cells (ledA n b) 60)) := by
  simp [Instr.box, newVar, newRow, Result.andThen, Value.cells]
/-- entries in memory -/
def entC (e : Ent) : List Value := [.int .i64 e.1, .int .i64 e.2]
def entA (e : Ent) : Array Value := #[.int .i64 e.1, .int .i64 e.2]
theorem entA_one (e : Ent) : ∀ v ∈ (entA e).toList, v.oneCell' = true := fun v hv => by
  simp only [entA, List.mem_cons, List.not_mem_nil, or_false] at hv
  rcases hv with rfl | rfl <;> rfl
theorem entC_one (e : Ent) : ∀ v ∈ entC e, v.oneCell' = true := entA_one e
theorem size_ent : (Try.prog.info? 57).map (·.size) = some 2 := by kernel_rfl
theorem zero_ent (w : World) : (zeroValue 57).run Try.prog w = .ok (.agg (entA (0, 0))) w := by kernel_rfl
theorem build_ent (x y : Int) (W : World) : (Instr.build 57 #[(0, .int .i64 x), (1, .int .i64 y)]).run Try.prog W = .ok (.agg (entA (x, y))) W := by kernel_rfl
theorem elmE : Elm Try.prog 35 57 2 16 (.agg #[.int .i64 0, .int .i64 0]) := ⟨Try.underlying35, by kernel_rfl, rfl, by decide, by decide⟩
structure EntAt (w : World) (A : Option Addr) (n : Nat) (es : List Ent) : Prop where
  row : Rws w 2 A n (es.map entC)
  wf : ∀ e ∈ es, Mn.in64 e.1 ∧ Mn.in64 e.2
theorem EntAt.still {w w' : World} {A : Option Addr} {n : Nat} {es : List Ent} (h : EntAt w A n es) (ht : Turn nowhere w w') : EntAt w' A n es := ⟨h.row.still ht, h.wf⟩
theorem EntAt.turn {w w' : World} {A : Option Addr} {n : Nat} {es : List Ent} {F : Nat → Prop} (h : EntAt w A n es) (ht : Turn F w w') (hn : ∀ b off s, A = some ⟨b, off, s⟩ → 0 < n → b < w.heap.size → ¬ F b) : EntAt w' A n es := ⟨h.row.turn ht hn, h.wf⟩
theorem EntAt.len {w : World} {A : Option Addr} {n : Nat} {es : List Ent} (h : EntAt w A n es) : n = es.length := by
  have := h.row.1
  rw [List.length_map] at this
  omega
theorem EntAt.rng {w : World} {A : Option Addr} {n : Nat} {es : List Ent} (h : EntAt w A n es) {i : Nat} {e : Ent} (he : es[i]? = some e) : ∃ b off, A = some ⟨b, off, none⟩ ∧ w.rangeAt b (off + i * 2) (entC e) := by
  obtain ⟨b, off, hA, hc⟩ := h.row.at_ (i := i) (r := entC e) (by rw [List.getElem?_map, he]; rfl)
  exact ⟨b, off, hA, fun j v hv => hc j v hv⟩
theorem ent_some {es : List Ent} {i n : Nat} (hn : n = es.length) (hi : i < n) : ∃ e, es[i]? = some e := ⟨es[i]'(by omega), List.getElem?_eq_getElem (by omega)⟩
theorem addr_of {A : Option Addr} {b off b' off' : Nat} (h : A = some ⟨b, off, none⟩) (g : A = some ⟨b', off', none⟩) : b = b' ∧ off = off' := by
  subst h; injection g with g; injection g with g1 g2; exact ⟨g1, g2⟩
/-- none of an account, at the end -/
theorem acc_snoc {n : Int} {es : List Ent} {e : Ent} (h : Lg.accB n es = true) (he : 0 ≤ e.1 ∧ e.1 < n) : Lg.accB n (es ++ [e]) = true := Lg.accB_iff.2 fun x hx => by
  rcases List.mem_append.1 hx with hx | hx
  · exact Lg.accB_iff.1 h x hx
  · obtain rfl : x = e := by simpa using hx
    exact he
theorem post_acc {n i : Nat} {b : Nat → Int} {es : List Ent} {e : Ent} (he : es[i]? = some e) (h : ¬ (0 ≤ e.1 ∧ e.1 < (n : Int))) : Lg.postE n b es = 121 := by
  unfold Lg.postE
  rw [if_pos]
  cases hb : Lg.accB n es with
  | false => rfl
  | true => exact absurd (Lg.accB_iff.1 hb e (List.mem_of_getElem? he)) h
theorem post_sum {n : Nat} {b : Nat → Int} {es : List Ent} (h : Lg.accB n es = true) (g : Lg.tot es ≠ 0) : Lg.postE n b es = 120 := by
  unfold Lg.postE
  rw [if_neg (by rw [h]; decide), if_pos g]
theorem post_fit {n : Nat} {b : Nat → Int} {es : List Ent} (hn : n ≤ 7) (hb : Lg.Okb n b) (h : Lg.accB n es = true) (g : Lg.tot es = 0) : Lg.postE n b es = fitE (fun a => b a + Lg.of (a : Int) es) := by
  have e : Lg.fitB n b es = fit7 (fun a => b a + Lg.of (a : Int) es) := by
    rw [Bool.eq_iff_iff, Lg.fitB_iff, fit7_iff]
    refine ⟨fun h1 a ha => ?_, fun h1 a ha => h1 a (by omega)⟩
    by_cases c : a < n
    · exact h1 a c
    · show Mn.in64 (b a + Lg.of (a : Int) es)
      rw [Lg.of_beyond h (a := a) (by omega), hb.2 a (by omega)]; decide
  unfold Lg.postE fitE
  rw [if_neg (by rw [h]; decide), if_neg (fun c => c g), e]
  cases fit7 _ <;> rfl
theorem has_walk {w : World} {p n : Nat} {b : Nat → Int} {a : Int} (h : Led w p n b) : Calls Try.prog 23 #[.pointer (some ⟨p, 0, none⟩), .int .i64 a] w fun e w' => e = .returned (.bool (decide (0 ≤ a) && decide (a < (n : Int)))) ∧ w' = w := by
  have H := Lib.hid h
  clear h
  go_enter Try.func23, Try.ntmps23
  go_upto_region 0 with fail
  refine wp_region_lit ?_
  refine wpList_run (v := .bool false) (wanted_none rfl) (gx_assign rfl rfl) ?_
  simp only [Act.put, List.setIfInBounds_toArray, List.set_cons_zero, List.set_cons_succ]
  go_upto_region 1 with fail
  refine wp_region_lit ?_
  refine wpList_run (v := .int .i64 a) (wanted_none rfl) (exec_move rfl rfl) ?_
  simp only [Act.put, List.setIfInBounds_toArray, List.set_cons_zero, List.set_cons_succ]
  refine wpList_run (v := .pointer (some ⟨p, 0, none⟩)) (wanted_none rfl) (exec_move rfl rfl) ?_
  simp only [Act.put, List.setIfInBounds_toArray, List.set_cons_zero, List.set_cons_succ]
  refine wpList_run (v := .pointer (some ⟨p, 0, none⟩)) (wanted_none rfl) (exec_nil rfl rfl) ?_
  simp only [Act.put, List.setIfInBounds_toArray, List.set_cons_zero, List.set_cons_succ]
  refine wpList_run (v := .pointer (some ⟨p, 0, none⟩)) (wanted_none rfl) (exec_field (off := 0) (d := 0) rfl rfl (by kernel_rfl)) ?_
  simp only [Act.put, List.setIfInBounds_toArray, List.set_cons_zero, List.set_cons_succ]
  refine wpList_run (v := .int .i64 (n : Int)) (wanted_none rfl) (exec_load1 rfl rfl (by kernel_rfl) (H.out.blk.cell 0)) ?_
  simp only [Act.put, List.setIfInBounds_toArray, List.set_cons_zero, List.set_cons_succ]
  refine wpList_op rfl fun K9 HK9 => ?_
  go_wp2_with fail
  refine (below_walk w).mono ?_
  rintro e w2 ⟨rfl, rfl⟩
  refine HK9.out _ _ ?_
  clear HK9
  try simp only [Act.put, List.setIfInBounds_toArray, List.set_cons_zero, List.set_cons_succ]
  refine wpList_run (v := .bool (decide (0 ≤ a) && decide (a < (n : Int)))) (wanted_none rfl) (gx_assign rfl rfl) ?_
  simp only [Act.put, List.setIfInBounds_toArray, List.set_cons_zero, List.set_cons_succ]
  go_wp2_with fail
  go_ret
  exact ⟨rfl, rfl⟩
theorem Len_walk {w : World} {p n : Nat} {b : Nat → Int} (h : Led w p n b) : Calls Try.prog 20 #[.pointer (some ⟨p, 0, none⟩)] w fun e w' => e = .returned (.int .i64 (n : Int)) ∧ w' = w := by
  have H := Lib.hid h
  clear h
  go_enter Try.func20, Try.ntmps20
  go_upto_region 0 with fail
  refine wp_region_lit ?_
  refine wpList_run (v := .int .i64 0) (wanted_none rfl) (gx_assign rfl rfl) ?_
  simp only [Act.put, List.setIfInBounds_toArray, List.set_cons_zero, List.set_cons_succ]
  go_upto_region 1 with fail
  refine wp_region_lit ?_
  refine wpList_run (v := .pointer (some ⟨p, 0, none⟩)) (wanted_none rfl) (exec_move rfl rfl) ?_
  simp only [Act.put, List.setIfInBounds_toArray, List.set_cons_zero, List.set_cons_succ]
  refine wpList_run (v := .pointer (some ⟨p, 0, none⟩)) (wanted_none rfl) (exec_nil rfl rfl) ?_
  simp only [Act.put, List.setIfInBounds_toArray, List.set_cons_zero, List.set_cons_succ]
  refine wpList_run (v := .pointer (some ⟨p, 0, none⟩)) (wanted_none rfl) (exec_field (off := 0) (d := 0) rfl rfl (by kernel_rfl)) ?_
  simp only [Act.put, List.setIfInBounds_toArray, List.set_cons_zero, List.set_cons_succ]
  refine wpList_run (v := .int .i64 (n : Int)) (wanted_none rfl) (exec_load1 rfl rfl (by kernel_rfl) (H.out.blk.cell 0)) ?_
  simp only [Act.put, List.setIfInBounds_toArray, List.set_cons_zero, List.set_cons_succ]
  refine wpList_run (v := .int .i64 (n : Int)) (wanted_none rfl) (gx_assign rfl rfl) ?_
  simp only [Act.put, List.setIfInBounds_toArray, List.set_cons_zero, List.set_cons_succ]
  go_wp2_with fail
  go_ret
  exact ⟨rfl, rfl⟩
def balV (n : Nat) (b : Nat → Int) (a : Int) : Int := if 0 ≤ a ∧ a < (n : Int) then b a.toNat else 0
def balE (n : Nat) (a : Int) : Int := if 0 ≤ a ∧ a < (n : Int) then 0 else 121
theorem bal_at (n : Nat) (b : Nat → Int) {k : Nat} (h : k < n) : balV n b (k : Int) = b k ∧ balE n (k : Int) = 0 := by
  constructor
  · unfold balV; rw [if_pos (by omega)]; rfl
  · unfold balE; rw [if_pos (by omega)]
theorem bal_no {n : Nat} {b : Nat → Int} {a : Int} (h : ¬ (0 ≤ a ∧ a < (n : Int))) : balV n b a = 0 ∧ balE n a = 121 := ⟨if_neg h, if_neg h⟩
theorem Balance_walk {w : World} {p n : Nat} {b : Nat → Int} {a : Int} (h : Led w p n b) : Calls Try.prog 21 #[.pointer (some ⟨p, 0, none⟩), .int .i64 a] w fun e w' => e = two (balV n b a) (balE n a) ∧ w' = w := by
  have H := Lib.hid h
  have hn7 := h.ac.2
  clear h
  have y7 : (n : Int) ≤ 7 := by omega
  go_enter Try.func21, Try.ntmps21
  go_upto_region 0 with fail
  refine wp_region_lit ?_
  refine wpList_run (v := .int .i64 0) (wanted_none rfl) (gx_assign rfl rfl) ?_
  simp only [Act.put, List.setIfInBounds_toArray, List.set_cons_zero, List.set_cons_succ]
  refine wpList_run (v := .int .i64 0) (wanted_none rfl) (gx_assign rfl rfl) ?_
  simp only [Act.put, List.setIfInBounds_toArray, List.set_cons_zero, List.set_cons_succ]
  go_upto_region 1 with fail
  refine wp_region_lit ?_
  refine wpList_run (v := .pointer (some ⟨p, 0, none⟩)) (wanted_none rfl) (exec_move rfl rfl) ?_
  simp only [Act.put, List.setIfInBounds_toArray, List.set_cons_zero, List.set_cons_succ]
  refine wpList_run (v := .int .i64 a) (wanted_none rfl) (exec_move rfl rfl) ?_
  simp only [Act.put, List.setIfInBounds_toArray, List.set_cons_zero, List.set_cons_succ]
  refine wpList_op rfl fun K9 HK9 => ?_
  go_wp2_with fail
  refine (has_walk H.out).mono ?_
  rintro e w2 ⟨rfl, rfl⟩
  refine HK9.out _ _ ?_
  clear HK9
  try simp only [Act.put, List.setIfInBounds_toArray, List.set_cons_zero, List.set_cons_succ]
  by_cases hin : 0 ≤ a ∧ a < (n : Int)
  · obtain ⟨k, rfl⟩ := Int.eq_ofNat_of_zero_le hin.1
    have hk : k < n := by omega
    have HK := Lib.hid hk
    have HV := Lib.hid (bal_at n b hk)
    rw [show (decide (0 ≤ (k : Int)) && decide ((k : Int) < (n : Int))) = true from by simp; omega]
    clear hin hk
    refine wpList_run (v := .bool false) (wanted_none rfl) (ix_not (b := true) rfl rfl) ?_
    simp only [Act.put, List.setIfInBounds_toArray, List.set_cons_zero, List.set_cons_succ]
    go_upto_region 3 with fail
    refine wp_region_lit ?_
    refine wpList_run (v := .pointer (some ⟨p, 0, none⟩)) (wanted_none rfl) (exec_move rfl rfl) ?_
    simp only [Act.put, List.setIfInBounds_toArray, List.set_cons_zero, List.set_cons_succ]
    refine wpList_run (v := .int .i64 (k : Int)) (wanted_none rfl) (exec_move rfl rfl) ?_
    simp only [Act.put, List.setIfInBounds_toArray, List.set_cons_zero, List.set_cons_succ]
    refine wpList_run (v := .pointer (some ⟨p, 0, none⟩)) (wanted_none rfl) (exec_nil rfl rfl) ?_
    simp only [Act.put, List.setIfInBounds_toArray, List.set_cons_zero, List.set_cons_succ]
    refine wpList_run (v := .pointer (some ⟨p, 1, none⟩)) (wanted_none rfl) (exec_field (off := 0) (d := 1) rfl rfl (by kernel_rfl)) ?_
    simp only [Act.put, List.setIfInBounds_toArray, List.set_cons_zero, List.set_cons_succ]
    refine wpList_run (v := .pointer (some ⟨p, 0 + 1 + k * 1, none⟩)) (wanted_none rfl) (gx_aaddr (i := k) (sz := 1) rfl rfl rfl Try.underlying58 (by kernel_rfl) (by have := HK.out; omega) rfl) ?_
    simp only [Act.put, List.setIfInBounds_toArray, List.set_cons_zero, List.set_cons_succ]
    refine wpList_run (v := .int .i64 (b k)) (wanted_none rfl) (exec_load1 rfl rfl (by kernel_rfl) ((H.out.blk.cell (0 + 1 + k * 1)).trans (by rw [show 0 + 1 + k * 1 = 1 + k from by omega]; exact ledA_at n b k (by have := HK.out; omega)))) ?_
    simp only [Act.put, List.setIfInBounds_toArray, List.set_cons_zero, List.set_cons_succ]
    refine wpList_run (v := .int .i64 (b k)) (wanted_none rfl) (gx_assign rfl rfl) ?_
    simp only [Act.put, List.setIfInBounds_toArray, List.set_cons_zero, List.set_cons_succ]
    refine wpList_run (v := .int .i64 0) (wanted_none rfl) (gx_assign rfl rfl) ?_
    simp only [Act.put, List.setIfInBounds_toArray, List.set_cons_zero, List.set_cons_succ]
    go_wp2_with fail
    go_ret2
    exact ⟨two_eq HV.out.1.symm HV.out.2.symm, rfl⟩
  · have HV := Lib.hid (bal_no (b := b) hin)
    rw [show (decide (0 ≤ a) && decide (a < (n : Int))) = false from by simp; omega]
    clear hin
    refine wpList_run (v := .bool true) (wanted_none rfl) (ix_not (b := false) rfl rfl) ?_
    simp only [Act.put, List.setIfInBounds_toArray, List.set_cons_zero, List.set_cons_succ]
    go_upto_region 2 with fail
    refine wp_region_lit ?_
    refine wpList_run (v := .int .i64 0) (wanted_none rfl) (gx_assign rfl rfl) ?_
    simp only [Act.put, List.setIfInBounds_toArray, List.set_cons_zero, List.set_cons_succ]
    refine wpList_run (v := .int .i64 121) (wanted_none rfl) (gx_assign rfl rfl) ?_
    simp only [Act.put, List.setIfInBounds_toArray, List.set_cons_zero, List.set_cons_succ]
    go_wp2_with fail
    go_ret2
    exact ⟨two_eq HV.out.1.symm HV.out.2.symm, rfl⟩
/-- what New tells -/
def NewP (w : World) (k : Int) (e : Ending) (w' : World) : Prop :=
  (¬ (1 ≤ k ∧ k ≤ 7) ∧ e = .returned (.tuple #[.pointer none, .int .i64 1]) ∧ w' = w) ∨
  ∃ (n p : Nat), k = (n : Int) ∧ e = .returned (.tuple #[.pointer (some ⟨p, 0, none⟩), .int .i64 0]) ∧ Led w' p n (fun _ => 0) ∧ w.heap.size ≤ p ∧ Turn nowhere w w'
theorem New_walk {w : World} {k : Int} : Calls Try.prog 9 #[.int .i64 k] w fun e w' => NewP w k e w' := by
  rcases (by omega : k < 1 ∨ 7 < k ∨ (1 ≤ k ∧ k ≤ 7)) with h | h | h
  · have HN := Lib.hid (show ¬ (1 ≤ k ∧ k ≤ 7) from by omega)
    go_enter Try.func9, Try.ntmps9
    go_upto_region 0 with fail
    refine wp_region_lit ?_
    refine wpList_run (v := .pointer none) (wanted_none rfl) (gx_assign rfl rfl) ?_
    simp only [Act.put, List.setIfInBounds_toArray, List.set_cons_zero, List.set_cons_succ]
    refine wpList_run (v := .int .i64 0) (wanted_none rfl) (gx_assign rfl rfl) ?_
    simp only [Act.put, List.setIfInBounds_toArray, List.set_cons_zero, List.set_cons_succ]
    go_upto_region 1 with fail
    refine wp_region_lit ?_
    refine wpList_run (v := .int .i64 k) (wanted_none rfl) (exec_move rfl rfl) ?_
    simp only [Act.put, List.setIfInBounds_toArray, List.set_cons_zero, List.set_cons_succ]
    refine wpList_run (v := .bool true) (wanted_none rfl) (ix_lss rfl rfl rfl (decide_eq_true h)) ?_
    simp only [Act.put, List.setIfInBounds_toArray, List.set_cons_zero, List.set_cons_succ]
    refine wpList_run (v := .bool true) (wanted_none rfl) (exec_move rfl rfl) ?_
    simp only [Act.put, List.setIfInBounds_toArray, List.set_cons_zero, List.set_cons_succ]
    refine wpList_skip (by go_simp) ?_
    simp only [Act.put, List.setIfInBounds_toArray, List.set_cons_zero, List.set_cons_succ]
    refine wpList_skip (by go_simp) ?_
    simp only [Act.put, List.setIfInBounds_toArray, List.set_cons_zero, List.set_cons_succ]
    refine wpList_run (v := .bool true) (wanted_none rfl) (ix_pickT rfl rfl rfl) ?_
    simp only [Act.put, List.setIfInBounds_toArray, List.set_cons_zero, List.set_cons_succ]
    go_upto_region 2 with fail
    refine wp_region_lit ?_
    refine wpList_run (v := .pointer none) (wanted_none rfl) (gx_assign rfl rfl) ?_
    simp only [Act.put, List.setIfInBounds_toArray, List.set_cons_zero, List.set_cons_succ]
    refine wpList_run (v := .int .i64 1) (wanted_none rfl) (gx_assign rfl rfl) ?_
    simp only [Act.put, List.setIfInBounds_toArray, List.set_cons_zero, List.set_cons_succ]
    go_wp2_with fail
    go_ret2
    exact .inl ⟨HN.out, rfl, rfl⟩
  · have HN := Lib.hid (show ¬ (1 ≤ k ∧ k ≤ 7) from by omega)
    go_enter Try.func9, Try.ntmps9
    go_upto_region 0 with fail
    refine wp_region_lit ?_
    refine wpList_run (v := .pointer none) (wanted_none rfl) (gx_assign rfl rfl) ?_
    simp only [Act.put, List.setIfInBounds_toArray, List.set_cons_zero, List.set_cons_succ]
    refine wpList_run (v := .int .i64 0) (wanted_none rfl) (gx_assign rfl rfl) ?_
    simp only [Act.put, List.setIfInBounds_toArray, List.set_cons_zero, List.set_cons_succ]
    go_upto_region 1 with fail
    refine wp_region_lit ?_
    refine wpList_run (v := .int .i64 k) (wanted_none rfl) (exec_move rfl rfl) ?_
    simp only [Act.put, List.setIfInBounds_toArray, List.set_cons_zero, List.set_cons_succ]
    refine wpList_run (v := .bool false) (wanted_none rfl) (ix_lss rfl rfl rfl (decide_eq_false (by omega))) ?_
    simp only [Act.put, List.setIfInBounds_toArray, List.set_cons_zero, List.set_cons_succ]
    refine wpList_run (v := .bool false) (wanted_none rfl) (exec_move rfl rfl) ?_
    simp only [Act.put, List.setIfInBounds_toArray, List.set_cons_zero, List.set_cons_succ]
    refine wpList_run (v := .int .i64 k) rfl (exec_move rfl rfl) ?_
    simp only [Act.put, List.setIfInBounds_toArray, List.set_cons_zero, List.set_cons_succ]
    refine wpList_run (v := .bool true) rfl (ix_gtr rfl rfl rfl (decide_eq_true h)) ?_
    simp only [Act.put, List.setIfInBounds_toArray, List.set_cons_zero, List.set_cons_succ]
    refine wpList_run (v := .bool true) (wanted_none rfl) (ix_pickF rfl rfl rfl) ?_
    simp only [Act.put, List.setIfInBounds_toArray, List.set_cons_zero, List.set_cons_succ]
    go_upto_region 2 with fail
    refine wp_region_lit ?_
    refine wpList_run (v := .pointer none) (wanted_none rfl) (gx_assign rfl rfl) ?_
    simp only [Act.put, List.setIfInBounds_toArray, List.set_cons_zero, List.set_cons_succ]
    refine wpList_run (v := .int .i64 1) (wanted_none rfl) (gx_assign rfl rfl) ?_
    simp only [Act.put, List.setIfInBounds_toArray, List.set_cons_zero, List.set_cons_succ]
    go_wp2_with fail
    go_ret2
    exact .inl ⟨HN.out, rfl, rfl⟩
  · obtain ⟨n, rfl⟩ := Int.eq_ofNat_of_zero_le (show 0 ≤ k by omega)
    have HN := Lib.hid (show 1 ≤ n ∧ n ≤ 7 from by omega)
    have y1 : 1 ≤ (n : Int) := by omega
    have y7 : (n : Int) ≤ 7 := by omega
    clear h
    go_enter Try.func9, Try.ntmps9
    go_upto_region 0 with fail
    refine wp_region_lit ?_
    refine wpList_run (v := .pointer none) (wanted_none rfl) (gx_assign rfl rfl) ?_
    simp only [Act.put, List.setIfInBounds_toArray, List.set_cons_zero, List.set_cons_succ]
    refine wpList_run (v := .int .i64 0) (wanted_none rfl) (gx_assign rfl rfl) ?_
    simp only [Act.put, List.setIfInBounds_toArray, List.set_cons_zero, List.set_cons_succ]
    go_upto_region 1 with fail
    refine wp_region_lit ?_
    refine wpList_run (v := .int .i64 (n : Int)) (wanted_none rfl) (exec_move rfl rfl) ?_
    simp only [Act.put, List.setIfInBounds_toArray, List.set_cons_zero, List.set_cons_succ]
    refine wpList_run (v := .bool false) (wanted_none rfl) (ix_lss rfl rfl rfl (decide_eq_false (by omega))) ?_
    simp only [Act.put, List.setIfInBounds_toArray, List.set_cons_zero, List.set_cons_succ]
    refine wpList_run (v := .bool false) (wanted_none rfl) (exec_move rfl rfl) ?_
    simp only [Act.put, List.setIfInBounds_toArray, List.set_cons_zero, List.set_cons_succ]
    refine wpList_run (v := .int .i64 (n : Int)) rfl (exec_move rfl rfl) ?_
    simp only [Act.put, List.setIfInBounds_toArray, List.set_cons_zero, List.set_cons_succ]
    refine wpList_run (v := .bool false) rfl (ix_gtr rfl rfl rfl (decide_eq_false (by omega))) ?_
    simp only [Act.put, List.setIfInBounds_toArray, List.set_cons_zero, List.set_cons_succ]
    refine wpList_run (v := .bool false) (wanted_none rfl) (ix_pickF rfl rfl rfl) ?_
    simp only [Act.put, List.setIfInBounds_toArray, List.set_cons_zero, List.set_cons_succ]
    go_upto_region 3 with fail
    refine wp_region_lit ?_
    refine wpList_run (v := .int .i64 (n : Int)) (wanted_none rfl) (exec_move rfl rfl) ?_
    simp only [Act.put, List.setIfInBounds_toArray, List.set_cons_zero, List.set_cons_succ]
    refine wpList_run (v := .agg (ledA n fun _ => 0)) (wanted_none rfl) (gx_build1 rfl rfl (build_led n _)) ?_
    simp only [Act.put, List.setIfInBounds_toArray, List.set_cons_zero, List.set_cons_succ]
    have hb := Blk.new w 60 (ledA n fun _ => 0)
    have HT := Lib.hid ((Turn.refl nowhere w).alloc (.cells (ledA n fun _ => 0) 60))
    refine wpList_run (v := .pointer (some ⟨w.heap.size, 0, none⟩)) (w' := w.alloc (.cells (ledA n fun _ => 0) 60)) (wanted_none rfl) (gx_box rfl rfl (box_led n _ _)) ?_
    simp only [Act.put, List.setIfInBounds_toArray, List.set_cons_zero, List.set_cons_succ]
    have HB := Lib.hid hb
    clear hb
    have hp : ∃ p, p = w.heap.size := ⟨_, rfl⟩
    obtain ⟨p, hp⟩ := hp
    rw [← hp] at HB ⊢
    have HP := Lib.hid (show w.heap.size ≤ p from by omega)
    clear hp
    generalize w.alloc (.cells (ledA n fun _ => 0) 60) = w2 at *
    refine wpList_run (v := .pointer (some ⟨p, 0, none⟩)) (wanted_none rfl) (gx_assign rfl rfl) ?_
    simp only [Act.put, List.setIfInBounds_toArray, List.set_cons_zero, List.set_cons_succ]
    refine wpList_run (v := .int .i64 0) (wanted_none rfl) (gx_assign rfl rfl) ?_
    simp only [Act.put, List.setIfInBounds_toArray, List.set_cons_zero, List.set_cons_succ]
    go_wp2_with fail
    go_ret2
    exact .inr ⟨n, p, rfl, rfl, ⟨HB.out, HN.out, Lg.okb_zero n⟩, HP.out, HT.out⟩
theorem Clone_walk {w : World} {p n : Nat} {b : Nat → Int} (h : Led w p n b) : Calls Try.prog 11 #[.pointer (some ⟨p, 0, none⟩)] w fun e w' => ∃ q, e = .returned (.pointer (some ⟨q, 0, none⟩)) ∧ Led w' q n b ∧ w.heap.size ≤ q ∧ Turn nowhere w w' := by
  have H := Lib.hid h
  clear h
  go_enter Try.func11, Try.ntmps11
  go_upto_region 0 with fail
  refine wp_region_lit ?_
  refine wpList_run (v := .pointer none) (wanted_none rfl) (gx_assign rfl rfl) ?_
  simp only [Act.put, List.setIfInBounds_toArray, List.set_cons_zero, List.set_cons_succ]
  go_upto_region 1 with fail
  refine wp_region_lit ?_
  refine wpList_run (v := .pointer (some ⟨p, 0, none⟩)) (wanted_none rfl) (exec_move rfl rfl) ?_
  simp only [Act.put, List.setIfInBounds_toArray, List.set_cons_zero, List.set_cons_succ]
  refine wpList_run (v := .pointer (some ⟨p, 0, none⟩)) (wanted_none rfl) (exec_nil rfl rfl) ?_
  simp only [Act.put, List.setIfInBounds_toArray, List.set_cons_zero, List.set_cons_succ]
  refine wpList_run (v := .agg (ledA n b)) (wanted_none rfl) (gx_loads rfl rfl (blk_range H.out.blk) Try.underlying60 rfl (by rw [size_led]; rfl)) ?_
  simp only [Act.put, List.setIfInBounds_toArray, List.set_cons_zero, List.set_cons_succ]
  refine wpList_run (v := .pointer (some ⟨w.heap.size, 0, none⟩)) (w' := w.alloc (.cells (ledA 0 fun _ => 0) 60)) (wanted_none rfl) (gx_alloc rfl (zero_led _)) ?_
  simp only [Act.put, List.setIfInBounds_toArray, List.set_cons_zero, List.set_cons_succ]
  have hb_ := Blk.new w 60 (ledA 0 fun _ => 0)
  have ht_ := (Turn.refl nowhere w).alloc (.cells (ledA 0 fun _ => 0) 60)
  obtain ⟨q, hg_⟩ : ∃ g, g = w.heap.size := ⟨_, rfl⟩
  rw [← hg_] at hb_ ⊢
  have HLq := Lib.hid (show w.heap.size ≤ q from by omega)
  clear hg_
  generalize w.alloc (.cells (ledA 0 fun _ => 0) 60) = w1 at *
  have HBq := Lib.hid hb_
  have HT1 := Lib.hid ht_
  clear hb_ ht_
  refine wpList_store_row (wanted_none rfl) 60 (.tmp 3) (.tmp 6) rfl (ledA n b) HBq.out rfl rfl (rfl) (by rw [size_led] <;> rfl) (ledA_one _ _) ?_
  intro w2 hb_ ht_
  have HB2 := Lib.hid hb_
  have HT2 := Lib.hid ht_
  clear hb_ ht_
  simp only [Act.put, List.setIfInBounds_toArray, List.set_cons_zero, List.set_cons_succ]
  go_upto_region 2 with fail
  refine wp_region_lit ?_
  refine wpList_run (v := .pointer (some ⟨q, 0, none⟩)) (wanted_none rfl) (gx_assign rfl rfl) ?_
  simp only [Act.put, List.setIfInBounds_toArray, List.set_cons_zero, List.set_cons_succ]
  go_wp2_with fail
  go_ret
  exact ⟨q, rfl, ⟨HB2.out, H.out.ac, H.out.ok⟩, HLq.out, HT1.out.trans HT2.out fun k hk e => by have := HLq.out; have e : k = q := e; omega⟩
end Go.Proofs.Ythoefjaapjaeeaa
