/-
  The law MoneyFees, walked from the contracts of money. No conditions.
-/
import Derived.Test.YtkemkjangejnkaaMnL
import Derived.Test.YtkemkjangejnkaaIop
import Derived.Test.YtkemkjangejnkaaAlw
namespace Go.Proofs.Ytkemkjangejnkaa
open Go.RowKit
set_option linter.unusedVariables false
set_option linter.unusedSimpArgs false
theorem errno_eq {a : Act} {o : Oper} {W : World} {x y : Operand} {t u : TypeId} {i : Int} (ho : o.op = .binOp .eql t x y u) (hx : a.eval x = .int .i64 i) (hy : a.eval y = .int .i64 i) : (execOp a.eval o).run Try.prog W = .ok (.value (.bool true)) W := by
  unfold execOp
  simp only [ho, hx, hy]
  go_simp
theorem exec_load3 {P : Program} {a : Act} {o : Oper} {W : World} {x : Operand} {t : TypeId} {g : Nat} {u0 u1 u2 : Value} (ho : o.op = .load t x) (hx : a.eval x = .pointer (some ⟨g, 0, none⟩)) {d : TypeDesc} (hu : P.underlying t = some d) (hd : d.isRow = true) (hi : (P.info? t).map (·.size) = some 3)
    (h0 : W.cell? ⟨g, 0, none⟩ = some u0) (h1 : W.cell? ⟨g, 1, none⟩ = some u1) (h2 : W.cell? ⟨g, 2, none⟩ = some u2) : (execOp a.eval o).run P W = .ok (.value (.agg #[u0, u1, u2])) W := by
  refine exec_load ho hx (run_loadAt_mid W g 0 t [u0, u1, u2] d ?_ hu hd hi)
  intro j v hj
  rw [Nat.zero_add]
  match j, hj with
  | 0, hj => exact h0.trans hj
  | 1, hj => exact h1.trans hj
  | 2, hj => exact h2.trans hj
theorem rcheck_walk2 (p l m : Int) (W : World) :
    Calls Try.prog 18 #[.agg #[.int .i64 p, .int .i64 l, .int .i64 m]] W fun e W' => e = .returned (.int .i64 (Mn.checkE p l m)) ∧ Turn nowhere W W' :=
  (rcheck_walk p l m W).mono fun e W' ⟨h, o, h2⟩ => ⟨h, by subst h2; exact (Turn.refl _ _).alloc o⟩
theorem moneyFees_walk (p l m a : Int) (W : World) (hA : AddC) (hS : SubC) (hC : CheckC) (hF : FeeC) :
    Calls Try.prog 4 #[.agg #[.int .i64 p, .int .i64 l, .int .i64 m], .int .i64 a] W fun e W' => e = .returned (.bool true) ∧ Below W.heap.size W W' := by
  have HA := Lib.hid hA
  have HS := Lib.hid hS
  have HF := Lib.hid hF
  have HC := Lib.hid hC
  have HT := Lib.hid (Turn.refl nowhere (W.alloc (.cells #[.int .i64 p, .int .i64 l, .int .i64 m] 28)))
  clear hA hS hF hC
  go_enter Try.func4, Try.ntmps4
  go_wp2_with (first | (go_at_call 10; refine (shown_walk HA.out HS.out HF.out _).mono ?_; rintro e w1 ⟨rfl, ht⟩; have HT := Lib.hid (HT.out.trans ht (fun _ _ e => e)); clear ht; have c0 : w1.cell? ⟨W.heap.size, 0, none⟩ = some (.int .i64 p) := turn_box HT.out 0; have c1 : w1.cell? ⟨W.heap.size, 1, none⟩ = some (.int .i64 l) := turn_box HT.out 1; have c2 : w1.cell? ⟨W.heap.size, 2, none⟩ = some (.int .i64 m) := turn_box HT.out 2) | (go_at_call 15; refine (HF.out _ _ _ _ _).mono ?_; rintro e w1 ⟨rfl, ht⟩; have HT := Lib.hid (HT.out.trans ht (fun _ _ e => e)); clear ht; have c0 : w1.cell? ⟨W.heap.size, 0, none⟩ = some (.int .i64 p) := turn_box HT.out 0; have c1 : w1.cell? ⟨W.heap.size, 1, none⟩ = some (.int .i64 l) := turn_box HT.out 1; have c2 : w1.cell? ⟨W.heap.size, 2, none⟩ = some (.int .i64 m) := turn_box HT.out 2) | (go_at_call 16; refine (rfee_walk _ _ _ _ _).mono ?_; rintro e w1 ⟨rfl, ht⟩; have HT := Lib.hid (HT.out.trans ht (fun _ _ e => e)); clear ht; have c0 : w1.cell? ⟨W.heap.size, 0, none⟩ = some (.int .i64 p) := turn_box HT.out 0; have c1 : w1.cell? ⟨W.heap.size, 1, none⟩ = some (.int .i64 l) := turn_box HT.out 1; have c2 : w1.cell? ⟨W.heap.size, 2, none⟩ = some (.int .i64 m) := turn_box HT.out 2))
  clear c0 c1 c2
  have hbk := (Blk.new W 28 #[.int .i64 p, .int .i64 l, .int .i64 m]).turn HT.out (fun e => e)
  obtain ⟨g, hg⟩ : ∃ g, g = W.heap.size := ⟨_, rfl⟩
  rw [← hg] at hbk ⊢
  have hS0 : (fun w => Blk w g 28 #[.int .i64 p, .int .i64 l, .int .i64 m] ∧ Turn nowhere W w) w1.drew := ⟨hbk.drew, (turn_new HT.out).drew⟩
  clear hg hbk
  refine wp_region_alw (fun w => Blk w g 28 #[.int .i64 p, .int .i64 l, .int .i64 m] ∧ Turn nowhere W w) (by kernel_rfl) ?_
  generalize w1.drew = w5 at *
  refine alw_take (i := 0) (v := .bool true) rfl (by kernel_rfl) (by kernel_rfl) (fun _ _ _ h => h) (.inl ⟨by rfl, fun W hW => exec_move rfl rfl⟩) hS0 ?_
  simp only [Act.put, List.setIfInBounds_toArray, List.set_cons_zero, List.set_cons_succ]
  refine alw_take (i := 1) (v := .bool true) rfl (by kernel_rfl) (by kernel_rfl) (fun _ _ _ h => h) (.inl ⟨by rfl, fun W hW => exec_move rfl rfl⟩) hS0 ?_
  simp only [Act.put, List.setIfInBounds_toArray, List.set_cons_zero, List.set_cons_succ]
  refine alw_take (i := 2) (v := .int .i64 (Mn.feeV p l m a)) rfl (by kernel_rfl) (by kernel_rfl) (fun _ _ _ h => h) (.inl ⟨by rfl, fun W hW => exec_move rfl rfl⟩) hS0 ?_
  simp only [Act.put, List.setIfInBounds_toArray, List.set_cons_zero, List.set_cons_succ]
  refine alw_take (i := 3) (v := .int .i64 (Mn.feeV p l m a)) rfl (by kernel_rfl) (by kernel_rfl) (fun _ _ _ h => h) (.inl ⟨by rfl, fun W hW => exec_move rfl rfl⟩) hS0 ?_
  simp only [Act.put, List.setIfInBounds_toArray, List.set_cons_zero, List.set_cons_succ]
  refine alw_take (i := 4) (v := .bool true) rfl (by kernel_rfl) (by kernel_rfl) (fun _ _ _ h => h) (.inl ⟨by rfl, fun W hW => errno_eq (i := Mn.feeV p l m a) rfl rfl rfl⟩) hS0 ?_
  simp only [Act.put, List.setIfInBounds_toArray, List.set_cons_zero, List.set_cons_succ]
  refine alw_take (i := 5) (v := .bool true) rfl (by kernel_rfl) (by kernel_rfl) (fun _ _ _ h => h) (.inl ⟨by rfl, fun W hW => ix_pickT rfl rfl rfl⟩) hS0 ?_
  simp only [Act.put, List.setIfInBounds_toArray, List.set_cons_zero, List.set_cons_succ]
  refine alw_take (i := 6) (v := .bool true) rfl (by kernel_rfl) (by kernel_rfl) (fun _ _ _ h => h) (.inl ⟨by rfl, fun W hW => exec_move rfl rfl⟩) hS0 ?_
  simp only [Act.put, List.setIfInBounds_toArray, List.set_cons_zero, List.set_cons_succ]
  refine alw_take (i := 7) (v := .int .i64 (Mn.feeE p l m a)) rfl (by kernel_rfl) (by kernel_rfl) (fun _ _ _ h => h) (.inl ⟨by rfl, fun W hW => exec_move rfl rfl⟩) hS0 ?_
  simp only [Act.put, List.setIfInBounds_toArray, List.set_cons_zero, List.set_cons_succ]
  refine alw_take (i := 8) (v := .int .i64 (Mn.feeE p l m a)) rfl (by kernel_rfl) (by kernel_rfl) (fun _ _ _ h => h) (.inl ⟨by rfl, fun W hW => exec_move rfl rfl⟩) hS0 ?_
  simp only [Act.put, List.setIfInBounds_toArray, List.set_cons_zero, List.set_cons_succ]
  refine alw_take (i := 9) (v := .bool true) rfl (by kernel_rfl) (by kernel_rfl) (fun _ _ _ h => h) (.inl ⟨by rfl, fun W hW => errno_eq (i := Mn.feeE p l m a) rfl rfl rfl⟩) hS0 ?_
  simp only [Act.put, List.setIfInBounds_toArray, List.set_cons_zero, List.set_cons_succ]
  refine alw_take (i := 10) (v := .bool true) rfl (by kernel_rfl) (by kernel_rfl) (fun _ _ _ h => h) (.inl ⟨by rfl, fun W hW => ix_pickT rfl rfl rfl⟩) hS0 ?_
  simp only [Act.put, List.setIfInBounds_toArray, List.set_cons_zero, List.set_cons_succ]
  refine alw_take (i := 11) (v := .bool true) rfl (by kernel_rfl) (by kernel_rfl) (fun _ _ _ h => h) (.inl ⟨by rfl, fun W hW => exec_move rfl rfl⟩) hS0 ?_
  simp only [Act.put, List.setIfInBounds_toArray, List.set_cons_zero, List.set_cons_succ]
  refine alw_take (i := 12) (v := .agg #[.int .i64 p, .int .i64 l, .int .i64 m]) rfl (by kernel_rfl) (by kernel_rfl) (fun _ _ _ h => h) (.inl ⟨by rfl, fun W hW => exec_load3 rfl rfl Try.underlying28 rfl (by kernel_rfl) (hW.1.cell 0) (hW.1.cell 1) (hW.1.cell 2)⟩) hS0 ?_
  simp only [Act.put, List.setIfInBounds_toArray, List.set_cons_zero, List.set_cons_succ]
  refine alw_take (i := 14) (v := .agg #[.int .i64 p, .int .i64 l, .int .i64 m]) rfl (by kernel_rfl) (by kernel_rfl) (fun _ _ _ h => h) (.inl ⟨by rfl, fun W hW => exec_load3 rfl rfl Try.underlying28 rfl (by kernel_rfl) (hW.1.cell 0) (hW.1.cell 1) (hW.1.cell 2)⟩) hS0 ?_
  simp only [Act.put, List.setIfInBounds_toArray, List.set_cons_zero, List.set_cons_succ]
  refine alw_step (i := 13) (by kernel_rfl) rfl rfl ?_
  intro K13 HK13
  go_wp2_with fail
  refine (HC.out _ _ _ _).mono ?_
  rintro e w13 ⟨rfl, ht13⟩
  have hS1 : (fun w => Blk w g 28 #[.int .i64 p, .int .i64 l, .int .i64 m] ∧ Turn nowhere W w) w13 := ⟨hS0.1.turn ht13 (fun e => e), t3 hS0.2 ht13⟩
  clear ht13
  refine HK13.out _ _ ⟨hS1, ?_⟩
  clear HK13
  (try simp only [Act.put, List.setIfInBounds_toArray, List.set_cons_zero, List.set_cons_succ])
  refine alw_step (i := 15) (by kernel_rfl) rfl rfl ?_
  intro K15 HK15
  go_wp2_with fail
  refine (rcheck_walk2 _ _ _ _).mono ?_
  rintro e w15 ⟨rfl, ht15⟩
  have hS2 : (fun w => Blk w g 28 #[.int .i64 p, .int .i64 l, .int .i64 m] ∧ Turn nowhere W w) w15 := ⟨hS1.1.turn ht15 (fun e => e), t3 hS1.2 ht15⟩
  clear ht15
  refine HK15.out _ _ ⟨hS2, ?_⟩
  clear HK15
  (try simp only [Act.put, List.setIfInBounds_toArray, List.set_cons_zero, List.set_cons_succ])
  refine alw_take (i := 16) (v := .bool true) rfl (by kernel_rfl) (by kernel_rfl) (fun _ _ _ h => h) (.inl ⟨by rfl, fun W hW => errno_eq (i := Mn.checkE p l m) rfl rfl rfl⟩) hS2 ?_
  simp only [Act.put, List.setIfInBounds_toArray, List.set_cons_zero, List.set_cons_succ]
  refine alw_take (i := 17) (v := .bool true) rfl (by kernel_rfl) (by kernel_rfl) (fun _ _ _ h => h) (.inl ⟨by rfl, fun W hW => ix_pickT rfl rfl rfl⟩) hS2 ?_
  simp only [Act.put, List.setIfInBounds_toArray, List.set_cons_zero, List.set_cons_succ]
  refine alw_take (i := 18) (v := .bool true) rfl (by kernel_rfl) (by kernel_rfl) (fun _ _ _ h => h) (.inl ⟨by rfl, fun W hW => gx_assign rfl rfl⟩) hS2 ?_
  simp only [Act.put, List.setIfInBounds_toArray, List.set_cons_zero, List.set_cons_succ]
  refine alw_done (by kernel_rfl) ?_
  refine NoPanic.normal ?_
  go_wp2_with fail
  go_ret
  exact ⟨rfl, hS2.2.below (Nat.le_refl _) (fun _ _ e => e)⟩
end Go.Proofs.Ytkemkjangejnkaa
