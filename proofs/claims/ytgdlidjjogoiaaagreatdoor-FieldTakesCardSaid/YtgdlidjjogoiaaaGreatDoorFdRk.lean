/-
  The reference's Check, and general parts. Conditions: the rows read as the program's text lays them.
-/
import Derived.Test.YtgdlidjjogoiaaaGreatDoorFdPc
import Derived.Test.YtgdlidjjogoiaaaGreatDoorFdRb
namespace Go.Proofs.YtgdlidjjogoiaaaGreatDoor
open Go.RowKit
open Fdd
set_option linter.unusedVariables false
theorem rcheck_walk {f : Fm} {t : List UInt8} (w : World) (hl : t.length ≤ 9223372036854775807) :
    Calls Tryz.prog 9 #[fmV f, strV t] w fun e w' => e = .returned (.int .i64 (f.check t)) ∧ Turn nowhere w w' := by
  have HM := Lib.hid (fun W => rmay_walk f W)
  have hr : f.may = true → ∀ W, Calls Tryz.prog 23 #[fmV f, strV t] W fun e w' => e = .returned (.bool (f.right t)) ∧ Turn nowhere W w' := by
    intro hm W
    obtain ⟨k, s, c, rfl, h1, h2, h3⟩ := fm_exp hm
    exact rright_walk W (by omega) h3 hl
  have HR := Lib.hid hr
  clear hr hl
  have hck : f.check t = if f.may = true then if f.right t = true then 0 else 41 else 40 := rfl
  have HCK := Lib.hid hck
  clear hck
  obtain ⟨x0, x1, x2⟩ := f
  have hfv : fmV ⟨x0, x1, x2⟩ = .agg #[.int .i64 x0, .int .i64 x1, .int .i64 x2] := rfl
  rw [hfv] at HM HR ⊢
  clear hfv
  go_enter Tryz.func9, Tryz.ntmps9
  go_upto_region 1 with fail
  have hb0 := Blk.new w 24 #[.int .i64 x0, .int .i64 x1, .int .i64 x2]
  have ht0 := (Turn.refl nowhere w).alloc (.cells #[.int .i64 x0, .int .i64 x1, .int .i64 x2] 24)
  generalize (w.alloc (.cells #[.int .i64 x0, .int .i64 x1, .int .i64 x2] 24)) = w0 at *
  generalize w.heap.size = b2 at *
  have HB0 := Lib.hid hb0
  have HT0 := Lib.hid ht0
  clear hb0 ht0
  refine wp_region_lit ?_
  refine wpList_run (v := .agg #[.int .i64 x0, .int .i64 x1, .int .i64 x2]) rfl (exec_load rfl rfl (load_blkForm HB0.out)) ?_
  simp only [Act.put, List.setIfInBounds_toArray, List.set_cons_zero, List.set_cons_succ]
  cases hm : Fm.may ⟨x0, x1, x2⟩ with
  | false =>
    rw [hm] at HM HCK
    go_wp2_with (go_at_call 22; refine (HM.out _).mono ?_; rintro e w1 ⟨rfl, ht1⟩)
    go_ret
    rw [HCK.out]
    exact ⟨rfl, HT0.out.trans ht1 (fun _ _ e => e)⟩
  | true =>
    rw [hm] at HM HCK
    have HRR := Lib.hid (HR.out hm)
    clear HR
    go_upto_region 3 with (go_at_call 22; refine (HM.out _).mono ?_; rintro e w1 ⟨rfl, ht1⟩)
    have HT1 := Lib.hid (HT0.out.trans ht1 (fun _ _ e => e))
    have HB1 := Lib.hid (HB0.out.turn ht1 (fun e => e))
    clear ht1
    refine wp_region_lit ?_
    refine wpList_run (v := .agg #[.int .i64 x0, .int .i64 x1, .int .i64 x2]) rfl (exec_load rfl rfl (load_blkForm HB1.out)) ?_
    simp only [Act.put, List.setIfInBounds_toArray, List.set_cons_zero, List.set_cons_succ]
    refine wpList_run (v := strV t) rfl (exec_move rfl rfl) ?_
    simp only [Act.put, List.setIfInBounds_toArray, List.set_cons_zero, List.set_cons_succ]
    cases hrt : Fm.right ⟨x0, x1, x2⟩ t with
    | false =>
      rw [hrt] at HRR HCK
      go_wp2_with (go_at_call 23; refine (HRR.out _).mono ?_; rintro e w2 ⟨rfl, ht2⟩)
      go_ret
      rw [HCK.out]
      exact ⟨rfl, HT1.out.trans ht2 (fun _ _ e => e)⟩
    | true =>
      rw [hrt] at HRR HCK
      go_wp2_with (go_at_call 23; refine (HRR.out _).mono ?_; rintro e w2 ⟨rfl, ht2⟩)
      go_ret
      rw [HCK.out]
      exact ⟨rfl, HT1.out.trans ht2 (fun _ _ e => e)⟩
theorem put_own {f : Fm} {t : List UInt8} {W : World} (h : f.check t = 0) (hr : RowsT W) :
    Calls Tryz.prog 6 #[.slice none 0 0, fmV f, strV t] W fun e w' => ∃ A n c, e = .returned (.tuple #[.slice A n c, .int .i64 0]) ∧ Own w' W.heap.size 5 (.slice A n c) (f.put t) ∧ Turn nowhere W w' := by
  obtain ⟨hm, hrt⟩ := check_cases h
  obtain ⟨k, s, c, rfl, h1, h2, h3⟩ := fm_exp hm
  refine (put_main (cap := 0) h1 h2 h3 hrt hr (bs_nil W none) (by decide)).mono ?_
  rintro e w' ⟨A, n, c', rfl, ho, ht⟩
  rw [List.nil_append] at ho
  exact ⟨A, n, c', rfl, ho, ht⟩
theorem exec_nself {W : World} {a : Act} {o : Oper} {x y : Operand} {l : List UInt8} {t u : TypeId} (ho : o.op = .binOp .neq t x y u) (hx : a.eval x = strV l) (hy : a.eval y = strV l) : (execOp a.eval o).run Tryz.prog W = .ok (.value (.bool false)) W := by
  have h := exec_sneq (W := W) ho hx hy
  rwa [beq_self_eq_true] at h
/-- Take behind Put, and Take of less -/
theorem take_ok2 {f : Fm} {t rest : List UInt8} {W : World} {A : Option Addr} {n c : Nat} (h : f.check t = 0) (hr : RowsT W) (hb : Bs W A n (f.put t ++ rest)) (hn : n ≤ c) (hl : n ≤ 140737488355328) :
    Calls Tryz.prog 10 #[.slice A n c, fmV f] W fun e w' => ∃ A' n' c', e = .returned (.tuple #[strV t, .slice A' n' c', .int .i64 0]) ∧ Bs w' A' n' rest ∧ Turn nowhere W w' := by
  obtain ⟨hm, hrt⟩ := check_cases h
  obtain ⟨k, s, c', rfl, h1, h2, h3⟩ := fm_exp hm
  refine (take_main h1 h2 h3 hr hb hn hl).mono ?_
  rw [fm_back h1 h2 h3 hrt]
  rintro e w' ⟨⟨A', n', c'', rfl, ho⟩, ht⟩
  exact ⟨A', n', c'', rfl, (own_bs ho).1, ht⟩
theorem take_less {f : Fm} {t : List UInt8} {W : World} {A : Option Addr} {i c : Nat} (h : f.check t = 0) (hr : RowsT W) (hb : Bs W A i ((f.put t).take i)) (hi : i < (f.put t).length) (hn : i ≤ c) :
    Calls Tryz.prog 10 #[.slice A i c, fmV f] W fun e w' => e = .returned (.tuple #[strV [], .slice none 0 0, .int .i64 43]) ∧ Turn nowhere W w' := by
  have hsm := put_small h
  obtain ⟨hm, hrt⟩ := check_cases h
  obtain ⟨k, s, c', rfl, h1, h2, h3⟩ := fm_exp hm
  refine (take_main h1 h2 h3 hr hb hn (by omega)).mono ?_
  rw [fm_short h1 h2 h3 hrt hi]
  rintro e w' ⟨h4, ht⟩
  exact ⟨h4, ht⟩
theorem turn_below {w w1 w2 : World} (h : Turn nowhere w w1) (g : Below w.heap.size w1 w2) : Turn nowhere w w2 :=
  ⟨g.os.trans h.os, g.tape.trans h.tape, g.output.trans h.output, Nat.le_trans h.size g.size, fun k hk hn => (g.block k hk).trans (h.block k hk hn)⟩
theorem exec_make0 {a : Act} {o : Oper} {W : World} (ho : o.op = .buildSlice 22 0 #[]) : (execOp a.eval o).run Tryz.prog W = .ok (.value (.slice (some ⟨W.heap.size, 0, none⟩) 0 0)) (W.alloc (.cells #[] 5)) := by
  unfold execOp
  simp only [ho]
  kernel_rfl
theorem exec_ext {P : Program} {a : Act} {o : Oper} {x : Operand} {i : Nat} {xs : Array Value} {v : Value} {W : World} (ho : o.op = .extract x i) (hx : a.eval x = .tuple xs) (hv : xs[i]? = some v) : (execOp a.eval o).run P W = .ok (.value v) W := by
  unfold execOp
  simp [ho, hx, Instr.extract, hv]
set_option maxRecDepth 20000 in
theorem exec_bto {a : Act} {o : Oper} {x y : Operand} {A : Option Addr} {n c k : Nat} {W : World} (ho : o.op = .slice 22 x none (some y) none) (hx : a.eval x = .slice A n c) (hy : a.eval y = .int .i64 (k : Int)) (hk : k ≤ c) : (execOp a.eval o).run Tryz.prog W = .ok (.value (.slice A k c)) W := by
  have h := run_slice_h (P := Tryz.prog) (w := W) 22 A n c Tryz.underlying22 .i64 (k : Int) (by omega) (by omega)
  have hs : (sizeOf (Tryz.prog.elem 22)).run Tryz.prog W = .ok 1 W := by kernel_rfl
  rw [Int.toNat_natCast, hs] at h
  unfold execOp
  simp only [ho, Option.map, hx, hy, run_sliceAt_slice (P := Tryz.prog) W 22 _ _ _ _ Tryz.underlying22, h, Sem.run_bind, Sem.run_pure, Result.andThen_ok]
  cases A <;> simp [sliced, Addr.add]
theorem bs_take {W : World} {A : Option Addr} {n i : Nat} {l : List UInt8} (h : Bs W A n l) (hi : i ≤ n) : Bs W A i (l.take i) := by
  obtain ⟨h1, h2, h3⟩ := h
  refine ⟨by rw [List.length_take]; omega, Nat.le_trans hi h2, fun h0 => ?_⟩
  obtain ⟨b, off, rfl, hc⟩ := h3 (by omega)
  refine ⟨b, off, rfl, fun j hj => ?_⟩
  rw [hc j (by omega)]
  have : (l.take i).getD j 0 = l.getD j 0 := by
    simp only [List.getD_eq_getElem?_getD, List.getElem?_take]
    rw [if_pos hj]
  rw [this]
end Go.Proofs.YtgdlidjjogoiaaaGreatDoor
