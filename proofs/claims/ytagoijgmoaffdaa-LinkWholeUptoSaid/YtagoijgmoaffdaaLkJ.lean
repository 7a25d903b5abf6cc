/-
  groatlaw06's LinkJoins, walked. Condition: the two pieces are together at most 2^43 bytes.
-/
import Derived.Test.YtagoijgmoaffdaaLkP
namespace Go.Proofs.Ytagoijgmoaffdaa
open Go.RowKit
open Lkk
set_option linter.unusedVariables false
set_option linter.unusedSimpArgs false
def apart (F G : Nat → Prop) : Prop := ∀ k, F k → ¬ G k
theorem apart.symm {F G : Nat → Prop} (h : apart F G) : apart G F := fun k hg hf => h k hf hg
/-- a link that the call made -/
structure LkN (B : Nat) (w : World) (p : Nat) (v : Value) (h : List UInt8) : Prop where
  lk : Lk w p v h
  new : ∀ k, foot p v k → B ≤ k
theorem LkN.turn {B : Nat} {w w' : World} {p : Nat} {v : Value} {h : List UInt8} {F : Nat → Prop} (H : LkN B w p v h) (ht : Turn F w w') (hn : apart (foot p v) F) : LkN B w' p v h := ⟨H.lk.turn ht hn, H.new⟩
theorem LkN.still {B : Nat} {w w' : World} {p : Nat} {v : Value} {h : List UInt8} (H : LkN B w p v h) (ht : Turn nowhere w w') : LkN B w' p v h := H.turn ht fun _ _ e => e
theorem lkn_new {B : Nat} {w : World} {p : Nat} (h : Lk w p (.slice none 0 0) []) (hp : B ≤ p) : LkN B w p (.slice none 0 0) [] := ⟨h, fun k hk => by
  rcases hk with rfl | hk
  · exact hp
  · cases hk⟩
theorem new_apart {w : World} {p q : Nat} {v : Value} {h : List UInt8} (H : Lk w p v h) (hq : w.heap.size ≤ q) : apart (foot p v) (foot q (.slice none 0 0)) := fun k hk e => by
  have := H.lt k hk
  rcases e with rfl | e
  · omega
  · cases e
/-- another link behind a Feed -/
theorem fed_other {w : World} {p q : Nat} {v v' u : Value} {g : List UInt8} (H : Lk w q u g) (ha : apart (foot q u) (foot p v)) (hs : ∀ k, foot p v' k → foot p v k ∨ w.heap.size ≤ k) : apart (foot q u) (foot p v') := fun k hk e => by
  rcases hs k e with h | h
  · exact ha k hk h
  · have := H.lt k hk
    omega
theorem fed_new {B : Nat} {w w' : World} {p : Nat} {v v' : Value} {h h' : List UInt8} (H : LkN B w p v h) (hL : Lk w' p v' h') (hB : B ≤ w.heap.size) (hs : ∀ k, foot p v' k → foot p v k ∨ w.heap.size ≤ k) : LkN B w' p v' h' := ⟨hL, fun k hk => by
  rcases hs k hk with h | h
  · exact H.new k h
  · omega⟩
/-- a turn of what the call made is none of what was there -/
theorem turn_new {w w1 w' : World} {F G : Nat → Prop} (ht : Turn G w w1) (h : Turn F w1 w') (hn : ∀ k, F k → w.heap.size ≤ k) : Turn G w w' := ht.trans h fun k hk e => by
  have := hn k e
  omega
theorem join_ok {a b : List UInt8} : (feed a).ok = true → (feed (a ++ b)).ok = (feed ((feed a).rest ++ b)).ok ∧ (feed (a ++ b)).fs = (feed a).fs ++ (feed ((feed a).rest ++ b)).fs ∧ (feed (a ++ b)).rest = (feed ((feed a).rest ++ b)).rest := fun h => by
  rw [feed_join b a h]
  exact ⟨rfl, rfl, rfl⟩
/-- three rows of frames laid together, and one more -/
theorem frr_lt {w : World} {G : Nat → Prop} {v : Value} {fs : List (List UInt8)} (h : Frr w G v fs) : Frr w (fun k => k < w.heap.size) v fs := h.mono fun _ _ hk => hk
set_option maxRecDepth 20000 in
set_option maxHeartbeats 4000000 in
theorem linkJoins_walk (A : Option Addr) (n c : Nat) (a : List UInt8) (A1 : Option Addr) (n1 c1 : Nat) (b : List UInt8) (W : World) (ha : Bs W A n a) (hc : A = none → c = 0) (hb : Bs W A1 n1 b) (hc1 : A1 = none → c1 = 0) (hm : n + n1 ≤ 1048576) :
    Calls Try.prog 7 #[.slice A n c, .slice A1 n1 c1] W fun e w' => e = .returned (.bool true) ∧ Below W.heap.size W w' := by
  have HA := Lib.hid ha
  have HC := Lib.hid hc
  have HB := Lib.hid hb
  have HC1 := Lib.hid hc1
  have HM := Lib.hid hm
  clear ha hc hb hc1 hm
  go_enter Try.func7, Try.ntmps7
  go_upto_region 2 with (go_at_call 9; refine (shown_walk _).mono ?_; rintro e w1 ⟨rfl, ht1⟩)
  have HT1 := Lib.hid ht1
  clear ht1
  go_upto_region 3 with (go_at_call 12; refine (newL_walk _).mono ?_; rintro e w2 ⟨p, rfl, hL2, ht2, hp⟩)
  have HX := Lib.hid (lkn_new (B := W.heap.size) hL2 (Nat.le_trans HT1.out.size hp))
  have HT2 := Lib.hid (HT1.out.trans ht2 (fun _ _ e => e))
  clear hL2 ht2 hp HT1
  go_upto_region 4 with (go_at_call 12; refine (newL_walk _).mono ?_; rintro e w3 ⟨q, rfl, hL3, ht3, hq⟩)
  have HY := Lib.hid (lkn_new (B := W.heap.size) hL3 (Nat.le_trans HT2.out.size hq))
  have HAP := Lib.hid (new_apart HX.out.lk hq).symm
  have HX := Lib.hid (HX.out.still ht3)
  have HT3 := Lib.hid (HT2.out.trans ht3 (fun _ _ e => e))
  clear hL3 ht3 hq HT2
  have hw1 := feed_walk (c := c) HX.out.lk (HA.out.still HT3.out) HC.out (by have := HM.out; simp; omega)
  rw [List.nil_append] at hw1
  have HW1 := Lib.hid hw1
  clear hw1
  go_upto_region 7 with (go_at_call 14; refine HW1.out.mono ?_; rintro e w4 ⟨fv4, v4, rfl, hL4, hf4, ht4, hs4⟩)
  have hf4x := hf4
  obtain ⟨fA4, fc4, rfl⟩ := hf4.form
  have HX4 := Lib.hid (fed_new HX.out hL4 HT3.out.size hs4)
  have HAP4 := Lib.hid (fed_other HY.out.lk HAP.out hs4)
  have HY4 := Lib.hid (HY.out.turn ht4 HAP.out)
  have HT4 := Lib.hid (turn_new HT3.out ht4 HX.out.new)
  have HG4 := Lib.hid (show ∀ k, (w3.heap.size ≤ k ∨ (Value.slice none 0 0).ownBlock = some k) ∧ ¬ foot p v4 k → ¬ foot q (.slice none 0 0) k from fun k hk e => by
    have := HY.out.lk.lt k e
    rcases hk.1 with h | h
    · omega
    · cases h)
  have HF4 := Lib.hid hf4
  clear hf4 hf4x hL4 ht4 hs4 HW1 HX HY HAP HT3
  have hw1 := feed_walk (c := c1) HX4.out.lk (HB.out.still HT4.out) HC1.out (by have := HM.out; have := rest_le a; have := HA.out.1; omega)
  have HW1 := Lib.hid hw1
  clear hw1
  go_upto_region 8 with (go_at_call 14; refine HW1.out.mono ?_; rintro e w5 ⟨fv5, v5, rfl, hL5, hf5, ht5, hs5⟩)
  obtain ⟨fA5, fc5, rfl⟩ := hf5.form
  have HX5 := Lib.hid (fed_new HX4.out hL5 HT4.out.size hs5)
  have HAP5 := Lib.hid (fed_other HY4.out.lk HAP4.out hs5)
  have HY5 := Lib.hid (HY4.out.turn ht5 HAP4.out)
  have HT5 := Lib.hid (turn_new HT4.out ht5 HX4.out.new)
  have HF5 := Lib.hid hf5
  have HG5 := Lib.hid (show ∀ k, (w4.heap.size ≤ k ∨ v4.ownBlock = some k) ∧ ¬ foot p v5 k → ¬ foot q (.slice none 0 0) k from fun k hk e => by
    rcases hk.1 with h | h
    · have := HY4.out.lk.lt k e
      omega
    · exact HAP4.out k e (.inr h))
  have HF4 := Lib.hid (HF4.out.turn ht5 (fun k hk => hk.2))
  clear hf5 hL5 ht5 hs5 HW1 HX4 HY4 HAP4 HT4
  obtain ⟨A6, c6, w6, hrun6, hown6, ht6, hnew6⟩ := copy_src (ty := 22) (HA.out.still HT5.out) HC.out (by have := HM.out; omega)
  obtain ⟨A7, c7, w7, hrun7, hown7, hext7⟩ := append_src (ty := 22) hown6 ((HB.out.still HT5.out).still ht6) HC1.out (by have := HM.out; have := HA.out.1; omega)
  obtain ⟨ht7, hnew7⟩ := ext_new ht6 hext7 hnew6
  have hw1 := feed_walk (c := c7) (HY5.out.still ht7).lk hown7.bs.1 hown7.bs.2.2 (by have := HM.out; have := HA.out.1; simp; omega)
  rw [List.nil_append] at hw1
  have HW1 := Lib.hid hw1
  have HRUN6 := Lib.hid hrun6
  have HRUN7 := Lib.hid hrun7
  have HX7 := Lib.hid (HX5.out.still ht7)
  have HY7 := Lib.hid (HY5.out.still ht7)
  have HT7 := Lib.hid (HT5.out.trans ht7 (fun _ _ e => e))
  have HF4 := Lib.hid (HF4.out.turn ht7 (fun _ _ e => e))
  have HF5 := Lib.hid (HF5.out.turn ht7 (fun _ _ e => e))
  clear hrun6 hrun7 hown6 hown7 hext7 ht6 ht7 hnew6 hnew7 hw1
  refine wp_region_lit ?_
  refine wpList_run (v := .pointer (some ⟨q, 0, none⟩)) rfl (exec_move rfl rfl) ?_
  simp only [Act.put, List.setIfInBounds_toArray, List.set_cons_zero, List.set_cons_succ]
  refine wpList_run (v := .slice (some ⟨w5.heap.size, 0, none⟩) 0 0) (w' := w5.alloc (.cells #[] 5)) rfl (exec_buildNone rfl (build_noneB _)) ?_
  simp only [Act.put, List.setIfInBounds_toArray, List.set_cons_zero, List.set_cons_succ]
  refine wpList_run (v := .slice A n c) rfl (exec_move rfl rfl) ?_
  simp only [Act.put, List.setIfInBounds_toArray, List.set_cons_zero, List.set_cons_succ]
  refine wpList_run (v := .slice A6 n c6) (w' := w6) rfl (exec_append rfl rfl rfl HRUN6.out) ?_
  simp only [Act.put, List.setIfInBounds_toArray, List.set_cons_zero, List.set_cons_succ]
  refine wpList_run (v := .slice A1 n1 c1) rfl (exec_move rfl rfl) ?_
  simp only [Act.put, List.setIfInBounds_toArray, List.set_cons_zero, List.set_cons_succ]
  refine wpList_run (v := .slice A7 (a.length + n1) c7) (w' := w7) rfl (exec_append rfl rfl rfl HRUN7.out) ?_
  simp only [Act.put, List.setIfInBounds_toArray, List.set_cons_zero, List.set_cons_succ]

  clear HRUN6 HRUN7
  go_wp2_with fail
  refine HW1.out.mono ?_
  rintro e w8 ⟨fv8, v8, rfl, hL8, hf8, ht8, hs8⟩
  simp only [Act.put, List.setIfInBounds_toArray, List.set_cons_zero, List.set_cons_succ]
  rename_i K3 hK3
  refine hK3 _ _ ?_
  clear hK3 K3
  obtain ⟨fA8, fc8, rfl⟩ := hf8.form
  have HX8 := Lib.hid (HX7.out.turn ht8 HAP5.out.symm)
  have HY8 := Lib.hid (fed_new HY7.out hL8 HT7.out.size hs8)
  have HT8 := Lib.hid (turn_new HT7.out ht8 HY7.out.new)
  have HF4 := Lib.hid (frr_lt (HF4.out.turn ht8 HG4.out).frr)
  have HF5 := Lib.hid (frr_lt (HF5.out.turn ht8 HG5.out).frr)
  have HF8 := Lib.hid (frr_lt hf8.frr)
  clear hf8 hL8 ht8 hs8 HW1 HX7 HY7 HT7 HAP5 HX5 HY5 HG4 HG5
  have hj := join_ok (a := a) (b := b)
  have hc1 := fs_count (a ++ b)
  have hl3 : (a ++ b).length ≤ 1048576 := by rw [List.length_append, HA.out.1, HB.out.1]; exact HM.out
  have HCNT := Lib.hid (show (feed (a ++ b)).fs.length ≤ 1048576 from by omega)
  have HJ := Lib.hid hj
  clear hj hc1 hl3
  have e0 : ec true = 0 := rfl
  have e1 : ec false = 60 := rfl
  generalize feed (a ++ b) = r3 at *
  generalize feed ((feed a).rest ++ b) = r2 at *
  generalize feed a = r1 at *
  obtain ⟨f1, s1, k1⟩ := r1
  obtain ⟨f2, s2, k2⟩ := r2
  obtain ⟨f3, s3, k3⟩ := r3
  go_upto_region 9 with fail
  cases k1 with
  | false =>
    have hb : ∀ k2 k3 : Bool, True := fun _ _ => trivial
    cases k2 <;> cases k3 <;> (simp only [e0, e1]; go_wp2_with fail; go_ret; exact ⟨rfl, HT8.out.below (Nat.le_refl _) (fun k hk e => e)⟩)
  | true =>
    obtain ⟨h1, h2, h3⟩ := HJ.out rfl
    simp only at h1 h2 h3
    subst h1 h3
    have HEQ := Lib.hid h2
    clear h2
    cases k3 with
    | false => (simp only [e0, e1]; go_wp2_with fail; go_ret; exact ⟨rfl, HT8.out.below (Nat.le_refl _) (fun k hk e => e)⟩)
    | true =>
      simp only [e0, e1]
      go_upto_region 11 with fail
      obtain ⟨A9, c9, w9, hrun9, hfr9, hext9⟩ := frr_cat (ty := 28) (Frr.empty w8 (fun _ => True) trivial) (HF4.out.still ((Turn.refl nowhere w8).alloc (.cells #[] 22))) (fun _ _ _ => trivial) (fun k hk e => by
        have : w8.heap.size = k := Option.some.inj e
        omega) (by have := HCNT.out; have := congrArg List.length HEQ.out; simp at *; omega) (fun _ _ => trivial)
      simp only [List.length_nil, Nat.zero_add, List.nil_append] at hrun9 hfr9 hext9
      obtain ⟨ht9, hnew9⟩ := ext_new ((Turn.refl nowhere w8).alloc (.cells #[] 22)) hext9 (fun k hk => by
        have : w8.heap.size = k := Option.some.inj hk
        omega)
      obtain ⟨A10, c10, w10, hrun10, hfr10, hext10⟩ := frr_cat (ty := 28) hfr9 (HF5.out.still ht9) (fun _ _ _ => trivial) (fun k hk e => by have := hnew9 k e; omega) (by have := HCNT.out; have := congrArg List.length HEQ.out; simp at *; omega) (fun _ _ => trivial)
      obtain ⟨ht10, _⟩ := ext_new ht9 hext10 hnew9
      have hsame := same_walk hfr10 (HF8.out.still ht10) (by have := HCNT.out; have := congrArg List.length HEQ.out; simp at *; omega)
      rw [decide_eq_true HEQ.out.symm] at hsame
      have HS := Lib.hid hsame
      have HRUN9 := Lib.hid hrun9
      have HRUN10 := Lib.hid hrun10
      have HX10 := Lib.hid (HX8.out.still ht10)
      have HY10 := Lib.hid (HY8.out.still ht10)
      have HT10 := Lib.hid (HT8.out.trans ht10 (fun _ _ e => e))
      clear hsame hrun9 hrun10 hfr9 hfr10 hext9 hext10 ht9 ht10 hnew9
      refine wp_region_lit ?_
      refine wpList_run (v := .slice (some ⟨w8.heap.size, 0, none⟩) 0 0) (w' := w8.alloc (.cells #[] 22)) rfl (exec_buildNone rfl (build_noneF _)) ?_
      simp only [Act.put, List.setIfInBounds_toArray, List.set_cons_zero, List.set_cons_succ]
      refine wpList_run (v := .slice fA4 f1.length fc4) rfl (exec_move rfl rfl) ?_
      simp only [Act.put, List.setIfInBounds_toArray, List.set_cons_zero, List.set_cons_succ]
      refine wpList_run (v := .slice A9 f1.length c9) (w' := w9) rfl (exec_append rfl rfl rfl HRUN9.out) ?_
      simp only [Act.put, List.setIfInBounds_toArray, List.set_cons_zero, List.set_cons_succ]
      refine wpList_run (v := .slice fA5 f2.length fc5) rfl (exec_move rfl rfl) ?_
      simp only [Act.put, List.setIfInBounds_toArray, List.set_cons_zero, List.set_cons_succ]
      refine wpList_run (v := .slice A10 (f1.length + f2.length) c10) (w' := w10) rfl (exec_append rfl rfl rfl HRUN10.out) ?_
      simp only [Act.put, List.setIfInBounds_toArray, List.set_cons_zero, List.set_cons_succ]
      refine wpList_run (v := .slice fA8 f3.length fc8) rfl (exec_move rfl rfl) ?_
      simp only [Act.put, List.setIfInBounds_toArray, List.set_cons_zero, List.set_cons_succ]

      clear HRUN9 HRUN10
      go_wp2_with fail
      refine HS.out.mono ?_
      rintro e w11 ⟨rfl, ht11⟩
      simp only [Act.put, List.setIfInBounds_toArray, List.set_cons_zero, List.set_cons_succ]
      rename_i K3 hK3
      refine hK3 _ _ ?_
      clear hK3 K3 HS
      have HX11 := Lib.hid (HX10.out.still ht11)
      have HY11 := Lib.hid (HY10.out.still ht11)
      have HT11 := Lib.hid (HT10.out.trans ht11 (fun _ _ e => e))
      clear ht11 HX10 HY10 HT10
      go_wp2_with (go_at_call 17; first | (refine (held_walk HX11.out.lk).mono ?_; rintro e w12 ⟨rfl, rfl⟩) | (refine (held_walk HY11.out.lk).mono ?_; rintro e w12 ⟨rfl, rfl⟩))
      go_ret
      exact ⟨rfl, HT11.out.below (Nat.le_refl _) (fun k hk e => e)⟩

end Go.Proofs.Ytagoijgmoaffdaa
