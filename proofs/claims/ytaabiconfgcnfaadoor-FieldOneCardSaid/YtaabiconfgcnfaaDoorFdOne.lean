/-
  groatlaw04's FieldOne, walked. Conditions: the rows read as the program's text lays them.
-/
import Derived.Test.YtaabiconfgcnfaaDoorFdV
namespace Go.Proofs.YtaabiconfgcnfaaDoor
open Go.RowKit
open Fdd
set_option linter.unusedVariables false
theorem exec_saddB {W : World} {a : Act} {o : Oper} {x y : Operand} {l m : List UInt8} {t u : TypeId} (ho : o.op = .binOp .add t x y u) (hx : a.eval x = strV l) (hy : a.eval y = strV m) (hs : l.length + m.length ≤ 9223372036854775807) : (execOp a.eval o).run Tryd.prog W = .ok (.value (strV (l ++ m))) W := by
  have h := run_string_add_sum (P := Tryd.prog) W ⟨l.toArray⟩ ⟨m.toArray⟩ (by rw [str_size, str_size]; exact hs)
  rw [ByteArray.mk_append_mk] at h
  unfold execOp
  simp [ho, hx, hy, strV, eqGuard, binOp, h]
theorem exec_sself {W : World} {a : Act} {o : Oper} {x y : Operand} {l : List UInt8} {t u : TypeId} (ho : o.op = .binOp .eql t x y u) (hx : a.eval x = strV l) (hy : a.eval y = strV l) : (execOp a.eval o).run Tryd.prog W = .ok (.value (.bool true)) W := by
  have h := exec_seql (W := W) ho hx hy
  rwa [beq_self_eq_true] at h
theorem own_bs {w : World} {B n c : Nat} {A : Option Addr} {bs : List UInt8} (h : Own w B 5 (.slice A n c) bs) : Bs w A n bs ∧ n ≤ c ∧ (A = none → c = 0) := by
  obtain ⟨A', n', c', hf, h1, h2, h3⟩ := h.form
  injection hf with e1 e2 e3
  subst e1 e2 e3
  exact ⟨h1, h2, h3⟩
theorem fm_exp {f : Fm} (h : f.may = true) : ∃ k s c : Nat, f = nf k s c ∧ (1 ≤ k ∧ k ≤ 5) ∧ (1 ≤ c ∧ c ≤ 3) ∧ (1 ≤ s ∧ s ≤ 64) := Fdd.may_form h
theorem fm_err {k s c : Nat} {b : List UInt8} {e : Int} (hm : (nf k s c).may = true) (h : (nf k s c).take b = .error e) : (e == 0) = false := by
  by_cases h2 : k = 2
  · subst h2
    rw [take_ll hm] at h
    split at h
    · rename_i e' he
      injection h with h
      subst h
      have := takeAll_err he
      simp; omega
    · split at h
      · have := takeAll_err h
        simp; omega
      · injection h with h
        subst h
        rfl
  · rw [take_nl h2 hm] at h
    have := takeAll_err h
    simp; omega
theorem check_ok {k s c : Nat} {t : List UInt8} (hm : (nf k s c).may = true) (hr : (nf k s c).right t = true) : (nf k s c).check t = 0 := by
  unfold Fm.check
  rw [if_pos hm, if_pos hr]
set_option maxRecDepth 40000 in
set_option maxHeartbeats 2000000 in
theorem fieldOne_walk (a : Option Addr) (len cap : Nat) (bs : List UInt8) (f : Fm) (W : World) (hb : Bs W a len bs) (hrows : RowsT W) (hle : len ≤ cap) (hn : len ≤ 140737488351232) :
    Calls Tryd.prog 4 #[.slice a len cap, fmV f] W fun e w' => e = .returned (.bool true) ∧ Below W.heap.size W w' := by
  have HB := Lib.hid hb
  have HR := Lib.hid hrows
  have HLE := Lib.hid hle
  have HN := Lib.hid hn
  clear hb hrows hle hn
  have hchk : ∀ W t, RowsT W → f.check t = 0 → Calls Tryd.prog 10 #[fmV f, strV t] W fun e w' => e = .returned (.int .i64 0) ∧ Turn nowhere W w' := by
    intro W t hW h0
    have h := check_walk (f := f) (t := t) hW
    rwa [h0] at h
  have HCHK := Lib.hid hchk
  clear hchk
  obtain ⟨r, hr⟩ : ∃ r, r = f.take bs := ⟨_, rfl⟩
  have htake : ∀ W', Turn nowhere W W' → Calls Tryd.prog 9 #[.slice a len cap, fmV f] W' fun e w' => TakeF r W'.heap.size e w' ∧ Turn nowhere W' w' := by
    intro W' hT
    rw [hr]
    cases hm : f.may with
    | false =>
      refine (take_bad hm).mono ?_
      rintro e w' ⟨rfl, h2⟩
      refine ⟨?_, h2⟩
      unfold Fm.take
      rw [if_neg (by rw [hm]; decide)]
      rfl
    | true =>
      obtain ⟨k, s, c, rfl, h1, h2, h3⟩ := fm_exp hm
      exact take_main h1 h2 h3 (HR.out.turn hT) (bs_turn HB.out hT) HLE.out (by have := HN.out; omega)
  have HTAKE := Lib.hid htake
  have hput : ∀ t rest, r = .ok (t, rest) → f.check t = 0 ∧ f.put t ++ rest = bs ∧ ∀ W', RowsT W' → Calls Tryd.prog 7 #[.slice none 0 0, fmV f, strV t] W' fun e w' => ∃ A' n' c', e = .returned (.tuple #[.slice A' n' c', .int .i64 0]) ∧ Own w' W'.heap.size 5 (.slice A' n' c') (f.put t) ∧ Turn nowhere W' w' := by
    intro t rest hrt
    rw [hr] at hrt
    cases hm : f.may with
    | false =>
      unfold Fm.take at hrt
      rw [if_neg (by rw [hm]; decide)] at hrt
      cases hrt
    | true =>
      obtain ⟨k, s, c, rfl, h1, h2, h3⟩ := fm_exp hm
      obtain ⟨e1, e2⟩ := fm_one h1 h2 h3 hrt
      refine ⟨check_ok hm e1, e2, fun W' hW' => ?_⟩
      have h := put_main (cap := 0) h1 h2 h3 e1 hW' (bs_nil W' none) (by decide)
      rwa [List.nil_append] at h
  have HPUT := Lib.hid hput
  have hbad : ∀ e, r = .error e → (e == 0) = false := by
    intro e he
    rw [hr] at he
    cases hm : f.may with
    | false =>
      unfold Fm.take at he
      rw [if_neg (by rw [hm]; decide)] at he
      injection he with he
      subst he
      rfl
    | true =>
      obtain ⟨k, s, c, rfl, h1, h2, h3⟩ := fm_exp hm
      exact fm_err hm he
  have HBAD := Lib.hid hbad
  clear htake hput hbad hr
  obtain ⟨x0, x1, x2⟩ := f
  have hfv : fmV ⟨x0, x1, x2⟩ = .agg #[.int .i64 x0, .int .i64 x1, .int .i64 x2] := rfl
  rw [hfv] at HTAKE HPUT HCHK ⊢
  clear hfv
  go_enter Tryd.func4, Tryd.ntmps4
  go_upto_region 1 with fail
  have hb0 := Blk.new W 23 #[.int .i64 x0, .int .i64 x1, .int .i64 x2]
  have ht0 := (Turn.refl nowhere W).alloc (.cells #[.int .i64 x0, .int .i64 x1, .int .i64 x2] 23)
  generalize (W.alloc (.cells #[.int .i64 x0, .int .i64 x1, .int .i64 x2] 23)) = w0 at *
  obtain ⟨b3, hb3⟩ : ∃ b3, b3 = W.heap.size := ⟨_, rfl⟩
  rw [← hb3] at hb0 ⊢
  have HB0 := Lib.hid hb0
  have HT0 := Lib.hid ht0
  clear hb0 ht0 hb3
  go_upto_region 2 with (go_at_call 6; refine (shown_walk _ (HR.out.turn HT0.out)).mono ?_; rintro e w1 ⟨rfl, ht1⟩)
  have HT1 := Lib.hid (HT0.out.trans ht1 (fun _ _ e => e))
  have HB1 := Lib.hid (HB0.out.turn ht1 (fun e => e))
  clear ht1
  refine wp_region_lit ?_
  refine wpList_run (v := .slice a len cap) rfl (exec_move rfl rfl) ?_
  simp only [Act.put, List.setIfInBounds_toArray, List.set_cons_zero, List.set_cons_succ]
  refine wpList_run (v := .agg #[.int .i64 x0, .int .i64 x1, .int .i64 x2]) rfl (exec_load rfl rfl (load_blkForm HB1.out)) ?_
  simp only [Act.put, List.setIfInBounds_toArray, List.set_cons_zero, List.set_cons_succ]
  cases r with
  | error ke =>
    have y0 : (ke == 0) = false := HBAD.out ke rfl
    go_wp2_with (go_at_call 9; refine (HTAKE.out _ HT1.out).mono ?_; rintro e w2 ⟨(rfl : e = _), ht2⟩; unfold strV)
    go_ret
    exact ⟨rfl, (HT1.out.trans ht2 (fun _ _ e => e)).below (Nat.le_refl _) (fun _ _ e => e)⟩
  | ok tr =>
    obtain ⟨t, rest⟩ := tr
    obtain ⟨hck, hcat, hpt⟩ := HPUT.out t rest rfl
    have HCK := Lib.hid hck
    have HCAT := Lib.hid hcat
    have HPT := Lib.hid hpt
    clear hck hcat hpt
    go_upto_region 5 with (go_at_call 9; refine (HTAKE.out _ HT1.out).mono ?_; rintro e w2 ⟨⟨A2, n2, c2, rfl, ho2⟩, ht2⟩)
    have HO2 := Lib.hid (own_bs ho2)
    have HT2 := Lib.hid (HT1.out.trans ht2 (fun _ _ e => e))
    have HB2 := Lib.hid (HB1.out.turn ht2 (fun e => e))
    clear ho2 ht2
    refine wp_region_lit ?_
    refine wpList_run (v := .agg #[.int .i64 x0, .int .i64 x1, .int .i64 x2]) rfl (exec_load rfl rfl (load_blkForm HB2.out)) ?_
    simp only [Act.put, List.setIfInBounds_toArray, List.set_cons_zero, List.set_cons_succ]
    generalize hpv : Fm.put ⟨x0, x1, x2⟩ t = pv at *
    go_upto_region 6 with (go_at_call 7; refine (HPT.out _ (HR.out.turn HT2.out)).mono ?_; rintro e w3 ⟨A3, n3, c3, rfl, ho3, ht3⟩)
    have HO3 := Lib.hid (own_bs ho3)
    have HT3 := Lib.hid (HT2.out.trans ht3 (fun _ _ e => e))
    have HB3 := Lib.hid (HB2.out.turn ht3 (fun e => e))
    have HO2' := Lib.hid (bs_turn HO2.out.1 ht3)
    clear ho3 ht3
    refine wp_region_lit ?_
    refine wpList_run (v := .int .i64 0) rfl (exec_move rfl rfl) ?_
    simp only [Act.put, List.setIfInBounds_toArray, List.set_cons_zero, List.set_cons_succ]
    refine wpList_run (v := .bool true) (w' := w3) rfl (by go_simp) ?_
    simp only [Act.put, List.setIfInBounds_toArray, List.set_cons_zero, List.set_cons_succ]
    refine wpList_run (v := .bool true) rfl (exec_move rfl rfl) ?_
    simp only [Act.put, List.setIfInBounds_toArray, List.set_cons_zero, List.set_cons_succ]
    refine wpList_run (v := .slice A3 n3 c3) rfl (exec_move rfl rfl) ?_
    simp only [Act.put, List.setIfInBounds_toArray, List.set_cons_zero, List.set_cons_succ]
    refine wpList_run (v := strV pv) (w' := w3) rfl (exec_strBs rfl rfl HO3.out.1) ?_
    simp only [Act.put, List.setIfInBounds_toArray, List.set_cons_zero, List.set_cons_succ]
    refine wpList_run (v := .slice A2 n2 c2) rfl (exec_move rfl rfl) ?_
    simp only [Act.put, List.setIfInBounds_toArray, List.set_cons_zero, List.set_cons_succ]
    refine wpList_run (v := strV rest) (w' := w3) rfl (exec_strBs rfl rfl HO2'.out) ?_
    simp only [Act.put, List.setIfInBounds_toArray, List.set_cons_zero, List.set_cons_succ]
    refine wpList_run (v := strV bs) (w' := w3) rfl (by
      have h := HCAT.out
      have hl := HB.out.1
      have hn := HN.out
      rw [← h]
      exact exec_saddB rfl rfl rfl (by rw [← List.length_append, h, hl]; omega)) ?_
    simp only [Act.put, List.setIfInBounds_toArray, List.set_cons_zero, List.set_cons_succ]
    refine wpList_run (v := .slice a len cap) rfl (exec_move rfl rfl) ?_
    simp only [Act.put, List.setIfInBounds_toArray, List.set_cons_zero, List.set_cons_succ]
    refine wpList_run (v := strV bs) (w' := w3) rfl (exec_strBs rfl rfl (bs_turn HB.out HT3.out)) ?_
    simp only [Act.put, List.setIfInBounds_toArray, List.set_cons_zero, List.set_cons_succ]
    refine wpList_run (v := .bool true) (w' := w3) rfl (exec_sself rfl rfl rfl) ?_
    simp only [Act.put, List.setIfInBounds_toArray, List.set_cons_zero, List.set_cons_succ]
    refine wpList_run (v := .bool true) (w' := w3) rfl (by go_simp) ?_
    simp only [Act.put, List.setIfInBounds_toArray, List.set_cons_zero, List.set_cons_succ]
    refine wpList_run (v := .bool true) rfl (exec_move rfl rfl) ?_
    simp only [Act.put, List.setIfInBounds_toArray, List.set_cons_zero, List.set_cons_succ]
    refine wpList_run (v := .agg #[.int .i64 x0, .int .i64 x1, .int .i64 x2]) rfl (exec_load rfl rfl (load_blkForm HB3.out)) ?_
    simp only [Act.put, List.setIfInBounds_toArray, List.set_cons_zero, List.set_cons_succ]
    go_wp2_with (go_at_call 10; refine (HCHK.out _ t (HR.out.turn HT3.out) HCK.out).mono ?_; rintro e w4 ⟨rfl, ht4⟩)
    go_ret
    exact ⟨rfl, (HT3.out.trans ht4 (fun _ _ e => e)).below (Nat.le_refl _) (fun _ _ e => e)⟩
end Go.Proofs.YtaabiconfgcnfaaDoor
