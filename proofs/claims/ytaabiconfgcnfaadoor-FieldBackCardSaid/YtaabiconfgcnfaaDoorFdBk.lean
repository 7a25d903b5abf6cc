/-
  groatlaw04's FieldBack, walked. Conditions: the rows read as the program's text lays them.
-/
import Derived.Test.YtaabiconfgcnfaaDoorFdPc
import Derived.Test.YtaabiconfgcnfaaDoorFdRb
namespace Go.Proofs.YtaabiconfgcnfaaDoor
open Go.RowKit
open Fdd
set_option linter.unusedVariables false
theorem rcheck_walk {f : Fm} {t : List UInt8} (w : World) (hl : t.length ≤ 9223372036854775807) :
    Calls Tryd.prog 8 #[fmV f, strV t] w fun e w' => e = .returned (.int .i64 (f.check t)) ∧ Turn nowhere w w' := by
  have HM := Lib.hid (fun W => rmay_walk f W)
  have hr : f.may = true → ∀ W, Calls Tryd.prog 22 #[fmV f, strV t] W fun e w' => e = .returned (.bool (f.right t)) ∧ Turn nowhere W w' := by
    intro hm W
    obtain ⟨k, s, c, rfl, h1, h2, h3⟩ := fm_exp hm
    exact rright_walk W (by omega) h3 hl
  have HR := Lib.hid hr
  clear hr hl
  have hck : f.check t = if f.may = true then if f.right t = true then 0 else 41 else 40 := rfl
  have HCK := Lib.hid hck
  clear hck
  obtain ⟨x0, x1, x2⟩ := f
  have hfv : fmV ⟨x0, x1, x2⟩ = .agg #[.int .i64 x0, .int .i64 x1, .int .i64 x2] := rfl
  rw [hfv] at HM HR ⊢
  clear hfv
  go_enter Tryd.func8, Tryd.ntmps8
  go_upto_region 1 with fail
  have hb0 := Blk.new w 23 #[.int .i64 x0, .int .i64 x1, .int .i64 x2]
  have ht0 := (Turn.refl nowhere w).alloc (.cells #[.int .i64 x0, .int .i64 x1, .int .i64 x2] 23)
  generalize (w.alloc (.cells #[.int .i64 x0, .int .i64 x1, .int .i64 x2] 23)) = w0 at *
  generalize w.heap.size = b2 at *
  have HB0 := Lib.hid hb0
  have HT0 := Lib.hid ht0
  clear hb0 ht0
  refine wp_region_lit ?_
  refine wpList_run (v := .agg #[.int .i64 x0, .int .i64 x1, .int .i64 x2]) rfl (exec_load rfl rfl (load_blkForm HB0.out)) ?_
  simp only [Act.put, List.setIfInBounds_toArray, List.set_cons_zero, List.set_cons_succ]
  cases hm : Fm.may ⟨x0, x1, x2⟩ with
  | false =>
    rw [hm] at HM HCK
    go_wp2_with (go_at_call 21; refine (HM.out _).mono ?_; rintro e w1 ⟨rfl, ht1⟩)
    go_ret
    rw [HCK.out]
    exact ⟨rfl, HT0.out.trans ht1 (fun _ _ e => e)⟩
  | true =>
    rw [hm] at HM HCK
    have HRR := Lib.hid (HR.out hm)
    clear HR
    go_upto_region 3 with (go_at_call 21; refine (HM.out _).mono ?_; rintro e w1 ⟨rfl, ht1⟩)
    have HT1 := Lib.hid (HT0.out.trans ht1 (fun _ _ e => e))
    have HB1 := Lib.hid (HB0.out.turn ht1 (fun e => e))
    clear ht1
    refine wp_region_lit ?_
    refine wpList_run (v := .agg #[.int .i64 x0, .int .i64 x1, .int .i64 x2]) rfl (exec_load rfl rfl (load_blkForm HB1.out)) ?_
    simp only [Act.put, List.setIfInBounds_toArray, List.set_cons_zero, List.set_cons_succ]
    refine wpList_run (v := strV t) rfl (exec_move rfl rfl) ?_
    simp only [Act.put, List.setIfInBounds_toArray, List.set_cons_zero, List.set_cons_succ]
    cases hrt : Fm.right ⟨x0, x1, x2⟩ t with
    | false =>
      rw [hrt] at HRR HCK
      go_wp2_with (go_at_call 22; refine (HRR.out _).mono ?_; rintro e w2 ⟨rfl, ht2⟩)
      go_ret
      rw [HCK.out]
      exact ⟨rfl, HT1.out.trans ht2 (fun _ _ e => e)⟩
    | true =>
      rw [hrt] at HRR HCK
      go_wp2_with (go_at_call 22; refine (HRR.out _).mono ?_; rintro e w2 ⟨rfl, ht2⟩)
      go_ret
      rw [HCK.out]
      exact ⟨rfl, HT1.out.trans ht2 (fun _ _ e => e)⟩
theorem put_own {f : Fm} {t : List UInt8} {W : World} (h : f.check t = 0) (hr : RowsT W) :
    Calls Tryd.prog 7 #[.slice none 0 0, fmV f, strV t] W fun e w' => ∃ A n c, e = .returned (.tuple #[.slice A n c, .int .i64 0]) ∧ Own w' W.heap.size 5 (.slice A n c) (f.put t) ∧ Turn nowhere W w' := by
  obtain ⟨hm, hrt⟩ := check_cases h
  obtain ⟨k, s, c, rfl, h1, h2, h3⟩ := fm_exp hm
  refine (put_main (cap := 0) h1 h2 h3 hrt hr (bs_nil W none) (by decide)).mono ?_
  rintro e w' ⟨A, n, c', rfl, ho, ht⟩
  rw [List.nil_append] at ho
  exact ⟨A, n, c', rfl, ho, ht⟩
theorem exec_nself {W : World} {a : Act} {o : Oper} {x y : Operand} {l : List UInt8} {t u : TypeId} (ho : o.op = .binOp .neq t x y u) (hx : a.eval x = strV l) (hy : a.eval y = strV l) : (execOp a.eval o).run Tryd.prog W = .ok (.value (.bool false)) W := by
  have h := exec_sneq (W := W) ho hx hy
  rwa [beq_self_eq_true] at h
/-- Take behind Put, and Take of less -/
theorem take_ok2 {f : Fm} {t rest : List UInt8} {W : World} {A : Option Addr} {n c : Nat} (h : f.check t = 0) (hr : RowsT W) (hb : Bs W A n (f.put t ++ rest)) (hn : n ≤ c) (hl : n ≤ 140737488355328) :
    Calls Tryd.prog 9 #[.slice A n c, fmV f] W fun e w' => ∃ A' n' c', e = .returned (.tuple #[strV t, .slice A' n' c', .int .i64 0]) ∧ Bs w' A' n' rest ∧ Turn nowhere W w' := by
  obtain ⟨hm, hrt⟩ := check_cases h
  obtain ⟨k, s, c', rfl, h1, h2, h3⟩ := fm_exp hm
  refine (take_main h1 h2 h3 hr hb hn hl).mono ?_
  rw [fm_back h1 h2 h3 hrt]
  rintro e w' ⟨⟨A', n', c'', rfl, ho⟩, ht⟩
  exact ⟨A', n', c'', rfl, (own_bs ho).1, ht⟩
theorem take_less {f : Fm} {t : List UInt8} {W : World} {A : Option Addr} {i c : Nat} (h : f.check t = 0) (hr : RowsT W) (hb : Bs W A i ((f.put t).take i)) (hi : i < (f.put t).length) (hn : i ≤ c) :
    Calls Tryd.prog 9 #[.slice A i c, fmV f] W fun e w' => e = .returned (.tuple #[strV [], .slice none 0 0, .int .i64 43]) ∧ Turn nowhere W w' := by
  have hsm := put_small h
  obtain ⟨hm, hrt⟩ := check_cases h
  obtain ⟨k, s, c', rfl, h1, h2, h3⟩ := fm_exp hm
  refine (take_main h1 h2 h3 hr hb hn (by omega)).mono ?_
  rw [fm_short h1 h2 h3 hrt hi]
  rintro e w' ⟨h4, ht⟩
  exact ⟨h4, ht⟩
theorem turn_below {w w1 w2 : World} (h : Turn nowhere w w1) (g : Below w.heap.size w1 w2) : Turn nowhere w w2 :=
  ⟨g.os.trans h.os, g.tape.trans h.tape, g.output.trans h.output, Nat.le_trans h.size g.size, fun k hk hn => (g.block k hk).trans (h.block k hk hn)⟩
theorem exec_make0 {a : Act} {o : Oper} {W : World} (ho : o.op = .buildSlice 24 0 #[]) : (execOp a.eval o).run Tryd.prog W = .ok (.value (.slice (some ⟨W.heap.size, 0, none⟩) 0 0)) (W.alloc (.cells #[] 5)) := by
  unfold execOp
  simp only [ho]
  kernel_rfl
theorem exec_ext {P : Program} {a : Act} {o : Oper} {x : Operand} {i : Nat} {xs : Array Value} {v : Value} {W : World} (ho : o.op = .extract x i) (hx : a.eval x = .tuple xs) (hv : xs[i]? = some v) : (execOp a.eval o).run P W = .ok (.value v) W := by
  unfold execOp
  simp [ho, hx, Instr.extract, hv]
set_option maxRecDepth 20000 in
theorem exec_bto {a : Act} {o : Oper} {x y : Operand} {A : Option Addr} {n c k : Nat} {W : World} (ho : o.op = .slice 24 x none (some y) none) (hx : a.eval x = .slice A n c) (hy : a.eval y = .int .i64 (k : Int)) (hk : k ≤ c) : (execOp a.eval o).run Tryd.prog W = .ok (.value (.slice A k c)) W := by
  have h := run_slice_h (P := Tryd.prog) (w := W) 24 A n c Tryd.underlying24 .i64 (k : Int) (by omega) (by omega)
  have hs : (sizeOf (Tryd.prog.elem 24)).run Tryd.prog W = .ok 1 W := by kernel_rfl
  rw [Int.toNat_natCast, hs] at h
  unfold execOp
  simp only [ho, Option.map, hx, hy, run_sliceAt_slice (P := Tryd.prog) W 24 _ _ _ _ Tryd.underlying24, h, Sem.run_bind, Sem.run_pure, Result.andThen_ok]
  cases A <;> simp [sliced, Addr.add]
theorem bs_take {W : World} {A : Option Addr} {n i : Nat} {l : List UInt8} (h : Bs W A n l) (hi : i ≤ n) : Bs W A i (l.take i) := by
  obtain ⟨h1, h2, h3⟩ := h
  refine ⟨by rw [List.length_take]; omega, Nat.le_trans hi h2, fun h0 => ?_⟩
  obtain ⟨b, off, rfl, hc⟩ := h3 (by omega)
  refine ⟨b, off, rfl, fun j hj => ?_⟩
  rw [hc j (by omega)]
  have : (l.take i).getD j 0 = l.getD j 0 := by
    simp only [List.getD_eq_getElem?_getD, List.getElem?_take]
    rw [if_pos hj]
  rw [this]
set_option maxRecDepth 40000 in
set_option maxHeartbeats 2000000 in
theorem fieldBack_walk (f : Fm) (t : List UInt8) (a : Option Addr) (len cap : Nat) (bs : List UInt8) (W : World) (hrows : RowsT W) (hb : Bs W a len bs) (hnn : a = none → cap = 0) (hn : len ≤ 140737488351232) (hl : t.length ≤ 9223372036854775807) :
    Calls Tryd.prog 3 #[fmV f, strV t, .slice a len cap] W fun e w' => e = .returned (.bool true) ∧ Below W.heap.size W w' := by
  have HR := Lib.hid hrows
  have HBS := Lib.hid hb
  have HNZ := Lib.hid hnn
  have HN := Lib.hid hn
  clear hrows hb hnn hn
  have hrck : ∀ W', Calls Tryd.prog 8 #[fmV f, strV t] W' fun e w' => e = .returned (.int .i64 (f.check t)) ∧ Turn nowhere W' w' := fun W' => rcheck_walk W' hl
  clear hl
  have hbad : f.check t ≠ 0 → ∀ W', RowsT W' → Calls Tryd.prog 7 #[.slice none 0 0, fmV f, strV t] W' fun e w' => e = .returned (.tuple #[.slice none 0 0, .int .i64 (f.check t)]) ∧ Turn nowhere W' w' := fun h W' hW => put_bad h hW
  have hgood : f.check t = 0 → ∀ W', RowsT W' → Calls Tryd.prog 7 #[.slice none 0 0, fmV f, strV t] W' fun e w' => ∃ A n c, e = .returned (.tuple #[.slice A n c, .int .i64 0]) ∧ Own w' W'.heap.size 5 (.slice A n c) (f.put t) ∧ Turn nowhere W' w' := fun h W' hW => put_own h hW
  have htk : f.check t = 0 → ∀ W' A n c rest, RowsT W' → Bs W' A n (f.put t ++ rest) → n ≤ c → n ≤ 140737488355328 → Calls Tryd.prog 9 #[.slice A n c, fmV f] W' fun e w' => ∃ A' n' c', e = .returned (.tuple #[strV t, .slice A' n' c', .int .i64 0]) ∧ Bs w' A' n' rest ∧ Turn nowhere W' w' := fun h W' A n c rest hW h1 h2 h3 => take_ok2 h hW h1 h2 h3
  have htl : f.check t = 0 → ∀ W' A i c, RowsT W' → Bs W' A i ((f.put t).take i) → i < (f.put t).length → i ≤ c → Calls Tryd.prog 9 #[.slice A i c, fmV f] W' fun e w' => e = .returned (.tuple #[strV [], .slice none 0 0, .int .i64 43]) ∧ Turn nowhere W' w' := fun h W' A i c hW h1 h2 h3 => take_less h hW h1 h2 h3
  have hsm : f.check t = 0 → (f.put t).length ≤ 1000 := put_small
  have HRCK := Lib.hid hrck
  have HBAD := Lib.hid hbad
  have HGOOD := Lib.hid hgood
  have HTK := Lib.hid htk
  have HTL := Lib.hid htl
  have HSM := Lib.hid hsm
  clear hrck hbad hgood htk htl hsm
  generalize f.check t = ck at *
  generalize f.put t = pt at *
  obtain ⟨x0, x1, x2⟩ := f
  have hfv : fmV ⟨x0, x1, x2⟩ = .agg #[.int .i64 x0, .int .i64 x1, .int .i64 x2] := rfl
  rw [hfv] at HRCK HBAD HGOOD HTK HTL ⊢
  clear hfv
  go_enter Tryd.func3, Tryd.ntmps3
  go_upto_region 1 with fail
  have hb0 := Blk.new W 23 #[.int .i64 x0, .int .i64 x1, .int .i64 x2]
  have ht0 := (Turn.refl nowhere W).alloc (.cells #[.int .i64 x0, .int .i64 x1, .int .i64 x2] 23)
  generalize (W.alloc (.cells #[.int .i64 x0, .int .i64 x1, .int .i64 x2] 23)) = w0 at *
  obtain ⟨b3, hb3⟩ : ∃ b3, b3 = W.heap.size := ⟨_, rfl⟩
  rw [← hb3] at hb0 ⊢
  have HB0 := Lib.hid hb0
  have HT0 := Lib.hid ht0
  clear hb0 ht0 hb3
  go_upto_region 2 with (go_at_call 6; refine (shown_walk _ (HR.out.turn HT0.out)).mono ?_; rintro e w1 ⟨rfl, ht1⟩)
  have HT1 := Lib.hid (HT0.out.trans ht1 (fun _ _ e => e))
  have HB1 := Lib.hid (HB0.out.turn ht1 (fun e => e))
  clear ht1
  refine wp_region_lit ?_
  refine wpList_run (v := .agg #[.int .i64 x0, .int .i64 x1, .int .i64 x2]) rfl (exec_load rfl rfl (load_blkForm HB1.out)) ?_
  simp only [Act.put, List.setIfInBounds_toArray, List.set_cons_zero, List.set_cons_succ]
  refine wpList_run (v := strV t) rfl (exec_move rfl rfl) ?_
  simp only [Act.put, List.setIfInBounds_toArray, List.set_cons_zero, List.set_cons_succ]
  by_cases hck : ck = 0
  · subst hck
    have HG := Lib.hid (HGOOD.out rfl)
    have HK := Lib.hid (HTK.out rfl)
    have HL := Lib.hid (HTL.out rfl)
    have HM := Lib.hid (HSM.out rfl)
    clear HGOOD HTK HTL HSM HBAD
    go_upto_region 3 with (go_at_call 7; refine (HG.out _ (HR.out.turn HT1.out)).mono ?_; rintro e w2 ⟨A2, n2, c2, rfl, ho2, ht2⟩)
    have HBP := Lib.hid (own_bs ho2).1
    have HNC := Lib.hid (own_bs ho2).2
    have HT2 := Lib.hid (HT1.out.trans ht2 (fun _ _ e => e))
    have HB2 := Lib.hid (HB1.out.turn ht2 (fun e => e))
    clear ho2 ht2
    refine wp_region_lit ?_
    refine wpList_run (v := .bool true) rfl (exec_move rfl rfl) ?_
    simp only [Act.put, List.setIfInBounds_toArray, List.set_cons_zero, List.set_cons_succ]
    refine wpList_run (v := .bool false) (w' := w2) rfl (by go_simp) ?_
    simp only [Act.put, List.setIfInBounds_toArray, List.set_cons_zero, List.set_cons_succ]
    refine wpList_run (v := .bool false) rfl (exec_move rfl rfl) ?_
    simp only [Act.put, List.setIfInBounds_toArray, List.set_cons_zero, List.set_cons_succ]
    refine wpList_run (v := .int .i64 0) rfl (exec_move rfl rfl) ?_
    simp only [Act.put, List.setIfInBounds_toArray, List.set_cons_zero, List.set_cons_succ]
    refine wpList_run (v := .agg #[.int .i64 x0, .int .i64 x1, .int .i64 x2]) rfl (exec_load rfl rfl (load_blkForm HB2.out)) ?_
    simp only [Act.put, List.setIfInBounds_toArray, List.set_cons_zero, List.set_cons_succ]
    refine wpList_run (v := strV t) rfl (exec_move rfl rfl) ?_
    simp only [Act.put, List.setIfInBounds_toArray, List.set_cons_zero, List.set_cons_succ]
    go_upto_region 7 with (go_at_call 8; refine (HRCK.out _).mono ?_; rintro e w3 ⟨rfl, ht3⟩)
    have HT3 := Lib.hid (HT2.out.trans ht3 (fun _ _ e => e))
    have HB3 := Lib.hid (HB2.out.turn ht3 (fun e => e))
    have HBP3 := Lib.hid (bs_turn HBP.out ht3)
    clear ht3
    have HBS3 := Lib.hid (bs_turn HBS.out HT3.out)
    have hS0 : Blk w3.drew b3 23 #[.int .i64 x0, .int .i64 x1, .int .i64 x2] := HB3.out.drew
    have HTD := Lib.hid (show Turn nowhere W w3.drew from HT3.out.drew)
    have HPD := Lib.hid (show Bs w3.drew A2 n2 pt from HBP3.out)
    have HSD := Lib.hid (show Bs w3.drew a len bs from HBS3.out)
    clear HBP3 HBS3 HT3 HB3
    refine wp_region_till (fun W' => Blk W' b3 23 #[.int .i64 x0, .int .i64 x1, .int .i64 x2]) 6 (by kernel_rfl) ?_
    generalize w3.drew = wd at *
    refine till_pure (i := 1) (v := .slice A2 n2 c2) rfl (by kernel_rfl) (by kernel_rfl) (fun _ _ _ h => h) (.inl ⟨by rfl, fun W hW => exec_move rfl rfl⟩) hS0 ?_
    simp only [Act.put, List.setIfInBounds_toArray, List.set_cons_zero, List.set_cons_succ]
    refine till_pure (i := 3) (v := .slice a len cap) rfl (by kernel_rfl) (by kernel_rfl) (fun _ _ _ h => h) (.inl ⟨by rfl, fun W hW => exec_move rfl rfl⟩) hS0 ?_
    simp only [Act.put, List.setIfInBounds_toArray, List.set_cons_zero, List.set_cons_succ]
    refine till_take (i := 5) (v := .agg #[.int .i64 x0, .int .i64 x1, .int .i64 x2]) rfl (by kernel_rfl) (by kernel_rfl) (fun _ _ _ h => h) (.inl ⟨by rfl, fun W hW => exec_load rfl rfl (load_blkForm hW)⟩) hS0 ?_
    simp only [Act.put, List.setIfInBounds_toArray, List.set_cons_zero, List.set_cons_succ]
    refine till_step (i := 0) (by kernel_rfl) rfl rfl ?_
    intro K1 HK1
    refine wp_run (v := .slice (some ⟨wd.heap.size, 0, none⟩) 0 0) (w' := wd.alloc (.cells #[] 5)) (exec_make0 rfl) ?_
    have ho4 := Own.empty wd wd.heap.size 5 (Nat.le_refl _)
    have ht4 := (Turn.refl nowhere wd).alloc (.cells #[] 5)
    generalize (wd.alloc (.cells #[] 5)) = w4 at *
    generalize hv4 : Value.slice (some ⟨wd.heap.size, 0, none⟩) 0 0 = v4 at *
    refine HK1.out _ _ ⟨fun _ => hS0.turn ht4 (fun e => e), ?_⟩
    clear HK1 hv4
    simp only [Act.put, List.setIfInBounds_toArray, List.set_cons_zero, List.set_cons_succ]
    refine till_step (i := 2) (by kernel_rfl) rfl rfl ?_
    intro K1 HK1
    refine wp_append_bytes w4 (.tmp 36) (.tmp 37) 24 rfl wd.heap.size 5 byteInfo Tryd.underlying24 v4 [] rfl ho4 A2 n2 c2 pt rfl (bs_turn HPD.out ht4) HNC.out.2 (by have := HM.out; have := HPD.out.1; simp; omega) ht4.size ?_
    intro v5 w5 ho5 hbl5
    rw [List.nil_append] at ho5
    have ht5 := turn_below ht4 hbl5
    clear ho4 ht4 hbl5
    refine HK1.out _ _ ⟨fun _ => hS0.turn ht5 (fun e => e), ?_⟩
    clear HK1
    simp only [Act.put, List.setIfInBounds_toArray, List.set_cons_zero, List.set_cons_succ]
    refine till_step (i := 4) (by kernel_rfl) rfl rfl ?_
    intro K1 HK1
    refine wp_append_bytes w5 (.tmp 38) (.tmp 39) 24 rfl wd.heap.size 5 byteInfo Tryd.underlying24 v5 pt rfl ho5 a len cap bs rfl (bs_turn HSD.out ht5) HNZ.out (by have := HM.out; have := HN.out; omega) ht5.size ?_
    intro v6 w6 ho6 hbl6
    have ht6 := turn_below ht5 hbl6
    refine HK1.out _ _ ⟨fun _ => hS0.turn ht6 (fun e => e), ?_⟩
    clear HK1 ho5 ht5 hbl6
    simp only [Act.put, List.setIfInBounds_toArray, List.set_cons_zero, List.set_cons_succ]
    obtain ⟨A6, n6, c6, hv6, hb6, hn6, _⟩ := ho6.form
    rw [hv6]
    have HB6 := Lib.hid hb6
    have HN6 := Lib.hid hn6
    have HT6 := Lib.hid (HTD.out.trans ht6 (fun _ _ e => e))
    have HP6 := Lib.hid (bs_turn HPD.out ht6)
    have HS6 := Lib.hid (bs_turn HSD.out ht6)
    have HX6 := Lib.hid (hS0.turn ht6 (fun e => e))
    have HLN := Lib.hid (show n6 ≤ 140737488355328 from by have h1 := hb6.1; rw [List.length_append] at h1; have := HM.out; have := HSD.out.1; have := HN.out; omega)
    clear ho6 hv6 hb6 hn6 ht6 hS0 HPD HSD HTD
    refine till_step (i := 6) (by kernel_rfl) rfl rfl ?_
    intro K1 HK1
    go_wp2_with fail
    refine (HK.out _ A6 n6 c6 bs (HR.out.turn HT6.out) HB6.out HN6.out HLN.out).mono ?_
    rintro e w7 ⟨A7, n7, c7, rfl, hb7, ht7⟩
    refine HK1.out _ _ ⟨fun _ => HX6.out.turn ht7 (fun e => e), ?_⟩
    have HX7 := Lib.hid (HX6.out.turn ht7 (fun e => e))
    have HT7 := Lib.hid (HT6.out.trans ht7 (fun _ _ e => e))
    have HB7 := Lib.hid hb7
    have HP7 := Lib.hid (bs_turn HP6.out ht7)
    have HS7 := Lib.hid (bs_turn HS6.out ht7)
    clear HK1 hb7 ht7 HX6 HT6 HB6 HP6 HS6 HN6 HLN HK
    try simp only [Act.put, List.setIfInBounds_toArray, List.set_cons_zero, List.set_cons_succ]
    refine till_pure (i := 7) (v := .tuple #[strV t, .slice A7 n7 c7, .int .i64 0]) rfl (by kernel_rfl) (by kernel_rfl) (fun _ _ _ h => h) (.inl ⟨by rfl, fun W hW => exec_move rfl rfl⟩) HX7.out ?_
    simp only [Act.put, List.setIfInBounds_toArray, List.set_cons_zero, List.set_cons_succ]
    refine till_pure (i := 8) (v := strV t) rfl (by kernel_rfl) (by kernel_rfl) (fun _ _ _ h => h) (.inl ⟨by rfl, fun W hW => exec_ext rfl rfl rfl⟩) HX7.out ?_
    simp only [Act.put, List.setIfInBounds_toArray, List.set_cons_zero, List.set_cons_succ]
    refine till_pure (i := 9) (v := .slice A7 n7 c7) rfl (by kernel_rfl) (by kernel_rfl) (fun _ _ _ h => h) (.inl ⟨by rfl, fun W hW => exec_ext rfl rfl rfl⟩) HX7.out ?_
    simp only [Act.put, List.setIfInBounds_toArray, List.set_cons_zero, List.set_cons_succ]
    refine till_pure (i := 10) (v := .int .i64 0) rfl (by kernel_rfl) (by kernel_rfl) (fun _ _ _ h => h) (.inl ⟨by rfl, fun W hW => exec_ext rfl rfl rfl⟩) HX7.out ?_
    simp only [Act.put, List.setIfInBounds_toArray, List.set_cons_zero, List.set_cons_succ]
    refine till_tail 11 rfl (by kernel_rfl) ?_
    go_wp2_with fail
    refine NoPanic.normal ?_
    go_upto_region 8 with fail
    refine wp_region_lit ?_
    refine wpList_run (v := .int .i64 0) rfl (exec_move rfl rfl) ?_
    simp only [Act.put, List.setIfInBounds_toArray, List.set_cons_zero, List.set_cons_succ]
    refine wpList_run (v := .bool false) (w' := w7) rfl (by go_simp) ?_
    simp only [Act.put, List.setIfInBounds_toArray, List.set_cons_zero, List.set_cons_succ]
    refine wpList_run (v := .bool false) rfl (exec_move rfl rfl) ?_
    simp only [Act.put, List.setIfInBounds_toArray, List.set_cons_zero, List.set_cons_succ]
    refine wpList_run (v := strV t) rfl (exec_move rfl rfl) ?_
    simp only [Act.put, List.setIfInBounds_toArray, List.set_cons_zero, List.set_cons_succ]
    refine wpList_run (v := strV t) rfl (exec_move rfl rfl) ?_
    simp only [Act.put, List.setIfInBounds_toArray, List.set_cons_zero, List.set_cons_succ]
    refine wpList_run (v := .bool false) (w' := w7) rfl (exec_nself rfl rfl rfl) ?_
    simp only [Act.put, List.setIfInBounds_toArray, List.set_cons_zero, List.set_cons_succ]
    refine wpList_run (v := .bool false) (w' := w7) rfl (by go_simp) ?_
    simp only [Act.put, List.setIfInBounds_toArray, List.set_cons_zero, List.set_cons_succ]
    refine wpList_run (v := .bool false) rfl (exec_move rfl rfl) ?_
    simp only [Act.put, List.setIfInBounds_toArray, List.set_cons_zero, List.set_cons_succ]
    refine wpList_run (v := .slice A7 n7 c7) rfl (exec_move rfl rfl) ?_
    simp only [Act.put, List.setIfInBounds_toArray, List.set_cons_zero, List.set_cons_succ]
    refine wpList_run (v := strV bs) (w' := w7) rfl (exec_strBs rfl rfl HB7.out) ?_
    simp only [Act.put, List.setIfInBounds_toArray, List.set_cons_zero, List.set_cons_succ]
    refine wpList_run (v := .slice a len cap) rfl (exec_move rfl rfl) ?_
    simp only [Act.put, List.setIfInBounds_toArray, List.set_cons_zero, List.set_cons_succ]
    refine wpList_run (v := strV bs) (w' := w7) rfl (exec_strBs rfl rfl HS7.out) ?_
    simp only [Act.put, List.setIfInBounds_toArray, List.set_cons_zero, List.set_cons_succ]
    refine wpList_run (v := .bool false) (w' := w7) rfl (exec_nself rfl rfl rfl) ?_
    simp only [Act.put, List.setIfInBounds_toArray, List.set_cons_zero, List.set_cons_succ]
    clear HB7 HS7 HBS HNZ HN
    go_wp2_with fail
    go_loopg [13] n2 (fun gk i wr => ∃ k : Nat, k + gk = n2 ∧ i = .int .i64 (k : Int) ∧ Turn nowhere w7 wr)
    case atStart => exact ⟨0, by omega, rfl, Turn.refl _ _⟩
    obtain ⟨k, hkl, rfl, htr⟩ := hrel
    have HKL := Lib.hid hkl
    have HTR := Lib.hid htr
    clear hkl htr
    by_cases hlt : k < n2
    · have y1 : (k : Int) < (n2 : Int) := by omega
      have HLT := Lib.hid hlt
      have hPL := HP7.out.1
      have HPL := Lib.hid hPL
      have y2 : (0 : Int) ≤ (k : Int) := by omega
      have y3 : (n2 : Int) ≤ 1000 := by have := HM.out; omega
      clear hPL
      go_upto_region 13 with fail
      have hS1 : Blk wr.drew b3 23 #[.int .i64 x0, .int .i64 x1, .int .i64 x2] := (HX7.out.turn HTR.out (fun e => e)).drew
      have HTD := Lib.hid (show Turn nowhere w7 wr.drew from HTR.out.drew)
      refine wp_region_till (fun W' => Blk W' b3 23 #[.int .i64 x0, .int .i64 x1, .int .i64 x2]) 4 (by kernel_rfl) ?_
      generalize wr.drew = wd1 at *
      refine till_pure (i := 0) (v := .slice A2 n2 c2) rfl (by kernel_rfl) (by kernel_rfl) (fun _ _ _ h => h) (.inl ⟨by rfl, fun W hW => exec_move rfl rfl⟩) hS1 ?_
      simp only [Act.put, List.setIfInBounds_toArray, List.set_cons_zero, List.set_cons_succ]
      refine till_pure (i := 1) (v := .int .i64 (k : Int)) rfl (by kernel_rfl) (by kernel_rfl) (fun _ _ _ h => h) (.inl ⟨by rfl, fun W hW => exec_move rfl rfl⟩) hS1 ?_
      simp only [Act.put, List.setIfInBounds_toArray, List.set_cons_zero, List.set_cons_succ]
      refine till_take (i := 3) (v := .agg #[.int .i64 x0, .int .i64 x1, .int .i64 x2]) rfl (by kernel_rfl) (by kernel_rfl) (fun _ _ _ h => h) (.inl ⟨by rfl, fun W hW => exec_load rfl rfl (load_blkForm hW)⟩) hS1 ?_
      simp only [Act.put, List.setIfInBounds_toArray, List.set_cons_zero, List.set_cons_succ]
      refine till_pure (i := 2) (v := .slice A2 k c2) rfl (by kernel_rfl) (by kernel_rfl) (fun _ _ _ h => h) (.inl ⟨by rfl, fun W hW => exec_bto rfl rfl rfl (by have := HLT.out; have := HNC.out.1; omega)⟩) hS1 ?_
      simp only [Act.put, List.setIfInBounds_toArray, List.set_cons_zero, List.set_cons_succ]
      refine till_step (i := 4) (by kernel_rfl) rfl rfl ?_
      intro K1 HK1
      go_wp2_with fail
      refine (HL.out _ A2 k c2 (HR.out.turn (HT7.out.trans HTD.out (fun _ _ e => e))) (bs_take (bs_turn HP7.out HTD.out) (by have := HLT.out; omega)) (by have := HLT.out; have := HPL.out; omega) (by have := HLT.out; have := HNC.out.1; omega)).mono ?_
      rintro e w8 ⟨rfl, ht8⟩
      refine HK1.out _ _ ⟨fun _ => hS1.turn ht8 (fun e => e), ?_⟩
      have HX8 := Lib.hid (hS1.turn ht8 (fun e => e))
      have HT8 := Lib.hid (HTD.out.trans ht8 (fun _ _ e => e))
      clear HK1 ht8 hS1
      try simp only [Act.put, List.setIfInBounds_toArray, List.set_cons_zero, List.set_cons_succ]
      refine till_pure (i := 5) (v := .tuple #[strV [], .slice none 0 0, .int .i64 43]) rfl (by kernel_rfl) (by kernel_rfl) (fun _ _ _ h => h) (.inl ⟨by rfl, fun W hW => exec_move rfl rfl⟩) HX8.out ?_
      simp only [Act.put, List.setIfInBounds_toArray, List.set_cons_zero, List.set_cons_succ]
      refine till_pure (i := 6) (v := strV []) rfl (by kernel_rfl) (by kernel_rfl) (fun _ _ _ h => h) (.inl ⟨by rfl, fun W hW => exec_ext rfl rfl rfl⟩) HX8.out ?_
      simp only [Act.put, List.setIfInBounds_toArray, List.set_cons_zero, List.set_cons_succ]
      refine till_pure (i := 7) (v := .slice none 0 0) rfl (by kernel_rfl) (by kernel_rfl) (fun _ _ _ h => h) (.inl ⟨by rfl, fun W hW => exec_ext rfl rfl rfl⟩) HX8.out ?_
      simp only [Act.put, List.setIfInBounds_toArray, List.set_cons_zero, List.set_cons_succ]
      refine till_pure (i := 8) (v := .int .i64 43) rfl (by kernel_rfl) (by kernel_rfl) (fun _ _ _ h => h) (.inl ⟨by rfl, fun W hW => exec_ext rfl rfl rfl⟩) HX8.out ?_
      simp only [Act.put, List.setIfInBounds_toArray, List.set_cons_zero, List.set_cons_succ]
      refine till_tail 9 rfl (by kernel_rfl) ?_
      go_wp2_with fail
      refine NoPanic.normal ?_
      go_wp2_with fail
      go_roundg (gk - 1)
      case measure => have := HKL.out; have := HLT.out; omega
      case rel => exact ⟨k + 1, by have := HKL.out; have := HLT.out; omega, by go_num, HT8.out⟩
    · have y1 : ¬ ((k : Int) < (n2 : Int)) := by omega
      go_wp2_with fail
      go_ret
      exact ⟨rfl, (HT7.out.trans HTR.out (fun _ _ e => e)).below (Nat.le_refl _) (fun _ _ e => e)⟩
  · have y0 : (ck == 0) = false := by simpa using hck
    have HG := Lib.hid (HBAD.out hck)
    clear HGOOD HTK HTL HSM HBAD
    go_upto_region 3 with (go_at_call 7; refine (HG.out _ (HR.out.turn HT1.out)).mono ?_; rintro e w2 ⟨rfl, ht2⟩)
    have HT2 := Lib.hid (HT1.out.trans ht2 (fun _ _ e => e))
    have HB2 := Lib.hid (HB1.out.turn ht2 (fun e => e))
    clear ht2
    refine wp_region_lit ?_
    refine wpList_run (v := .bool true) rfl (exec_move rfl rfl) ?_
    simp only [Act.put, List.setIfInBounds_toArray, List.set_cons_zero, List.set_cons_succ]
    refine wpList_run (v := .bool false) (w' := w2) rfl (by go_simp) ?_
    simp only [Act.put, List.setIfInBounds_toArray, List.set_cons_zero, List.set_cons_succ]
    refine wpList_run (v := .bool false) rfl (exec_move rfl rfl) ?_
    simp only [Act.put, List.setIfInBounds_toArray, List.set_cons_zero, List.set_cons_succ]
    refine wpList_run (v := .int .i64 ck) rfl (exec_move rfl rfl) ?_
    simp only [Act.put, List.setIfInBounds_toArray, List.set_cons_zero, List.set_cons_succ]
    refine wpList_run (v := .agg #[.int .i64 x0, .int .i64 x1, .int .i64 x2]) rfl (exec_load rfl rfl (load_blkForm HB2.out)) ?_
    simp only [Act.put, List.setIfInBounds_toArray, List.set_cons_zero, List.set_cons_succ]
    refine wpList_run (v := strV t) rfl (exec_move rfl rfl) ?_
    simp only [Act.put, List.setIfInBounds_toArray, List.set_cons_zero, List.set_cons_succ]
    go_wp2_with (go_at_call 8; refine (HRCK.out _).mono ?_; rintro e w3 ⟨rfl, ht3⟩)
    go_ret
    exact ⟨by simp, (HT2.out.trans ht3 (fun _ _ e => e)).below (Nat.le_refl _) (fun _ _ e => e)⟩
end Go.Proofs.YtaabiconfgcnfaaDoor
