/-
  field's When. No conditions.
-/
import Derived.Test.YtaabiconfgcnfaaDoorFdRd
import Derived.Laws.Cover1
namespace Go.Proofs.YtaabiconfgcnfaaDoor
open Go.RowKit
open Fdd
set_option linter.unusedVariables false
set_option linter.unusedSimpArgs false
theorem leq_val {x y : List UInt8} (hl : x.length = y.length) (hx : AllD x) (hy : AllD y) : (Op.bytesLess x y || x == y) = decide (val x ≤ val y) := by
  rw [Bool.eq_iff_iff, Bool.or_eq_true, less_val hl hx hy, beq_iff_eq, decide_eq_true_iff]
  constructor
  · rintro (h | rfl)
    · omega
    · exact Nat.le_refl _
  · intro h
    rcases Nat.lt_or_ge (val x) (val y) with h2 | h2
    · exact .inl h2
    · exact .inr (val_inj hl hx hy (by omega))
theorem wpList_do {P : Program} {ops : Array Oper} {rest : List Oper} {o : Oper} {a : Act} {w : World} {Q : Exit → Act → World → Prop} (hgd : Region.wanted o (yielded ops a.tmps) = true) (h : ∀ K : Act → World → Prop, (∀ a w, wpList P ops Q rest a w → K a w) → o.wp P a w K Q) : wpList P ops Q (o :: rest) a w :=
  wpList_step fun K hK => by
    rw [if_pos hgd]
    exact h K hK
theorem exec_sleq {W : World} {a : Act} {o : Oper} {x y : Operand} {l m : List UInt8} {t u : TypeId} (ho : o.op = .binOp .leq t x y u) (hx : a.eval x = strV l) (hy : a.eval y = strV m) : (execOp a.eval o).run Tryd.prog W = .ok (.value (.bool (Op.bytesLess l m || l == m))) W := by
  unfold execOp
  simp [ho, hx, hy, strV, eqGuard, binOp_string_leq]
theorem exec_smid {a : Act} {o : Oper} {W : World} {x y z : Operand} {l : List UInt8} {n m : Nat} (ho : o.op = .slice 9 x (some y) (some z) none) (hx : a.eval x = strV l) (hy : a.eval y = .int .i64 (n : Int)) (hz : a.eval z = .int .i64 (m : Int)) (hn : n ≤ m) (hm : m ≤ l.length) : (execOp a.eval o).run Tryd.prog W = .ok (.value (strV ((l.take m).drop n))) W := by
  have h := run_slice_string (P := Tryd.prog) (w := W) 9 ⟨l.toArray⟩ .i64 .i64 (n : Int) (m : Int) Tryd.underlying9 (by omega) (by omega) (by rw [str_size]; omega)
  rw [Int.toNat_natCast, Int.toNat_natCast, str_ext] at h
  unfold execOp
  simp only [ho, Option.map, hx, hy, hz, strV, run_sliceAt_string (P := Tryd.prog) W 9 _ _ _ _ Tryd.underlying9, h, Sem.run_bind, Sem.run_pure, Result.andThen_ok]
def days (v : Nat) : Nat := if v = 2 then 29 else if v = 4 ∨ v = 6 ∨ v = 9 ∨ v = 11 then 30 else 31
def dayS (v : Nat) : List UInt8 := if v = 2 then [50, 57] else if v = 4 ∨ v = 6 ∨ v = 9 ∨ v = 11 then [51, 48] else [51, 49]
theorem allD_two {a b : UInt8} (ha : 48 ≤ a.toNat ∧ a.toNat ≤ 57) (hb : 48 ≤ b.toNat ∧ b.toNat ≤ 57) : AllD [a, b] := fun c hc => by
  simp only [List.mem_cons, List.not_mem_nil, or_false] at hc
  rcases hc with h | h
  · rw [h]; exact ha
  · rw [h]; exact hb
theorem dayS_len (v : Nat) : (dayS v).length = 2 := by
  unfold dayS
  split
  · rfl
  · split <;> rfl
theorem dayS_all (v : Nat) : AllD (dayS v) := by
  unfold dayS
  split
  · exact allD_two (by decide) (by decide)
  · split <;> exact allD_two (by decide) (by decide)
theorem dayS_val (v : Nat) : val (dayS v) = days v := by
  unfold dayS days
  split
  · rfl
  · split <;> rfl
theorem lastDay_walk {x : List UInt8} (hl : x.length = 2) (ha : AllD x) (h1 : 1 ≤ val x) (h2 : val x ≤ 12) (w : World) :
    Calls Tryd.prog 33 #[strV x] w fun e w' => e = .returned (strV (dayS (val x))) ∧ w' = w := by
  have hv : val x = 1 ∨ val x = 2 ∨ val x = 3 ∨ val x = 4 ∨ val x = 5 ∨ val x = 6 ∨ val x = 7 ∨ val x = 8 ∨ val x = 9 ∨ val x = 10 ∨ val x = 11 ∨ val x = 12 := by omega
  rcases hv with hv | hv | hv | hv | hv | hv | hv | hv | hv | hv | hv | hv
  · obtain rfl : x = [48, 49] := val_inj hl ha (by exact allD_two (by decide) (by decide)) (by rw [hv]; rfl)
    rw [hv, show dayS 1 = [51, 49] from rfl]
    clear hl ha h1 h2 hv
    unfold strV
    go_enter Tryd.func33, Tryd.ntmps33
    go_wp2
    go_ret
    exact ⟨rfl, rfl⟩
  · obtain rfl : x = [48, 50] := val_inj hl ha (by exact allD_two (by decide) (by decide)) (by rw [hv]; rfl)
    rw [hv, show dayS 2 = [50, 57] from rfl]
    clear hl ha h1 h2 hv
    unfold strV
    go_enter Tryd.func33, Tryd.ntmps33
    go_wp2
    go_ret
    exact ⟨rfl, rfl⟩
  · obtain rfl : x = [48, 51] := val_inj hl ha (by exact allD_two (by decide) (by decide)) (by rw [hv]; rfl)
    rw [hv, show dayS 3 = [51, 49] from rfl]
    clear hl ha h1 h2 hv
    unfold strV
    go_enter Tryd.func33, Tryd.ntmps33
    go_wp2
    go_ret
    exact ⟨rfl, rfl⟩
  · obtain rfl : x = [48, 52] := val_inj hl ha (by exact allD_two (by decide) (by decide)) (by rw [hv]; rfl)
    rw [hv, show dayS 4 = [51, 48] from rfl]
    clear hl ha h1 h2 hv
    unfold strV
    go_enter Tryd.func33, Tryd.ntmps33
    go_wp2
    go_ret
    exact ⟨rfl, rfl⟩
  · obtain rfl : x = [48, 53] := val_inj hl ha (by exact allD_two (by decide) (by decide)) (by rw [hv]; rfl)
    rw [hv, show dayS 5 = [51, 49] from rfl]
    clear hl ha h1 h2 hv
    unfold strV
    go_enter Tryd.func33, Tryd.ntmps33
    go_wp2
    go_ret
    exact ⟨rfl, rfl⟩
  · obtain rfl : x = [48, 54] := val_inj hl ha (by exact allD_two (by decide) (by decide)) (by rw [hv]; rfl)
    rw [hv, show dayS 6 = [51, 48] from rfl]
    clear hl ha h1 h2 hv
    unfold strV
    go_enter Tryd.func33, Tryd.ntmps33
    go_wp2
    go_ret
    exact ⟨rfl, rfl⟩
  · obtain rfl : x = [48, 55] := val_inj hl ha (by exact allD_two (by decide) (by decide)) (by rw [hv]; rfl)
    rw [hv, show dayS 7 = [51, 49] from rfl]
    clear hl ha h1 h2 hv
    unfold strV
    go_enter Tryd.func33, Tryd.ntmps33
    go_wp2
    go_ret
    exact ⟨rfl, rfl⟩
  · obtain rfl : x = [48, 56] := val_inj hl ha (by exact allD_two (by decide) (by decide)) (by rw [hv]; rfl)
    rw [hv, show dayS 8 = [51, 49] from rfl]
    clear hl ha h1 h2 hv
    unfold strV
    go_enter Tryd.func33, Tryd.ntmps33
    go_wp2
    go_ret
    exact ⟨rfl, rfl⟩
  · obtain rfl : x = [48, 57] := val_inj hl ha (by exact allD_two (by decide) (by decide)) (by rw [hv]; rfl)
    rw [hv, show dayS 9 = [51, 48] from rfl]
    clear hl ha h1 h2 hv
    unfold strV
    go_enter Tryd.func33, Tryd.ntmps33
    go_wp2
    go_ret
    exact ⟨rfl, rfl⟩
  · obtain rfl : x = [49, 48] := val_inj hl ha (by exact allD_two (by decide) (by decide)) (by rw [hv]; rfl)
    rw [hv, show dayS 10 = [51, 49] from rfl]
    clear hl ha h1 h2 hv
    unfold strV
    go_enter Tryd.func33, Tryd.ntmps33
    go_wp2
    go_ret
    exact ⟨rfl, rfl⟩
  · obtain rfl : x = [49, 49] := val_inj hl ha (by exact allD_two (by decide) (by decide)) (by rw [hv]; rfl)
    rw [hv, show dayS 11 = [51, 48] from rfl]
    clear hl ha h1 h2 hv
    unfold strV
    go_enter Tryd.func33, Tryd.ntmps33
    go_wp2
    go_ret
    exact ⟨rfl, rfl⟩
  · obtain rfl : x = [49, 50] := val_inj hl ha (by exact allD_two (by decide) (by decide)) (by rw [hv]; rfl)
    rw [hv, show dayS 12 = [51, 49] from rfl]
    clear hl ha h1 h2 hv
    unfold strV
    go_enter Tryd.func33, Tryd.ntmps33
    go_wp2
    go_ret
    exact ⟨rfl, rfl⟩
def whenD (t : List UInt8) : Bool :=
  decide (t.length = 10 ∧ onlyOf t dec = true) && decide (1 ≤ val (t.take 2) ∧ val (t.take 2) ≤ 12 ∧ 1 ≤ val ((t.take 4).drop 2) ∧ val ((t.take 4).drop 2) ≤ days (val (t.take 2)) ∧ val ((t.take 6).drop 4) ≤ 23 ∧ val ((t.take 8).drop 6) ≤ 59 ∧ val (t.drop 8) ≤ 59)
theorem allD_sub {l m : List UInt8} (h : AllD l) (hs : ∀ b ∈ m, b ∈ l) : AllD m := fun b hb => h b (hs b hb)
set_option maxRecDepth 40000 in
set_option maxHeartbeats 2000000 in
theorem when_walk (t : List UInt8) (w : World) :
    Calls Tryd.prog 15 #[strV t] w fun e w' => e = .returned (.bool (whenD t)) ∧ Turn nowhere w w' := by
  have how : Calls Tryd.prog 27 #[strV t, strV dec] w fun e w' => e = .returned (.bool (onlyOf t dec)) ∧ Turn nowhere w w' := only_walk t dec (by decide) dec_ascii w
  obtain ⟨n, hn⟩ : ∃ n, n = t.length := ⟨_, rfl⟩
  have hdef : whenD t = (decide (n = 10 ∧ onlyOf t dec = true) && decide (1 ≤ val (t.take 2) ∧ val (t.take 2) ≤ 12 ∧ 1 ≤ val ((t.take 4).drop 2) ∧ val ((t.take 4).drop 2) ≤ days (val (t.take 2)) ∧ val ((t.take 6).drop 4) ≤ 23 ∧ val ((t.take 8).drop 6) ≤ 59 ∧ val (t.drop 8) ≤ 59)) := by rw [hn]; rfl
  have HD := Lib.hid hdef
  have HN := Lib.hid hn
  clear hdef hn
  go_enter Tryd.func15, Tryd.ntmps15
  go_upto_region 1 with fail
  refine wp_region_lit ?_
  refine wpList_run (v := strV t) rfl (exec_move rfl rfl) ?_
  simp only [Act.put, List.setIfInBounds_toArray, List.set_cons_zero, List.set_cons_succ]
  refine wpList_run (v := .int .i64 (n : Int)) (w' := w) rfl (by rw [HN.out]; exact exec_slen rfl rfl) ?_
  simp only [Act.put, List.setIfInBounds_toArray, List.set_cons_zero, List.set_cons_succ]
  by_cases h10 : n = 10
  · subst h10
    cases hq : onlyOf t dec with
    | false =>
      rw [hq] at how
      have HX := Lib.hid (show whenD t = false from by rw [HD.out, hq]; simp)
      have HW := Lib.hid how
      clear how
      go_wp2_with (go_at_call 27; refine HW.out.mono ?_; rintro e w1 ⟨rfl, ht1⟩)
      go_ret
      rw [HX.out]
      exact ⟨rfl, ht1⟩
    | true =>
      rw [hq] at how
      have HX := Lib.hid (show whenD t = decide (1 ≤ val (t.take 2) ∧ val (t.take 2) ≤ 12 ∧ 1 ≤ val ((t.take 4).drop 2) ∧ val ((t.take 4).drop 2) ≤ days (val (t.take 2)) ∧ val ((t.take 6).drop 4) ≤ 23 ∧ val ((t.take 8).drop 6) ≤ 59 ∧ val (t.drop 8) ≤ 59) from by rw [HD.out, hq]; simp)
      have ha := allD_of hq
      have HW := Lib.hid how
      have hlen : t.length = 10 := HN.out.symm
      have HX0 := Lib.hid (show (t.take 2).length = 2 ∧ AllD (t.take 2) from ⟨by simp; omega, allD_sub ha fun b hb => List.mem_of_mem_take hb⟩)
      have HX1 := Lib.hid (show ((t.take 4).drop 2).length = 2 ∧ AllD ((t.take 4).drop 2) from ⟨by simp; omega, allD_sub ha fun b hb => List.mem_of_mem_take (List.mem_of_mem_drop hb)⟩)
      have HX2 := Lib.hid (show ((t.take 6).drop 4).length = 2 ∧ AllD ((t.take 6).drop 4) from ⟨by simp; omega, allD_sub ha fun b hb => List.mem_of_mem_take (List.mem_of_mem_drop hb)⟩)
      have HX3 := Lib.hid (show ((t.take 8).drop 6).length = 2 ∧ AllD ((t.take 8).drop 6) from ⟨by simp; omega, allD_sub ha fun b hb => List.mem_of_mem_take (List.mem_of_mem_drop hb)⟩)
      have HX4 := Lib.hid (show (t.drop 8).length = 2 ∧ AllD (t.drop 8) from ⟨by simp; omega, allD_sub ha fun b hb => List.mem_of_mem_drop hb⟩)
      have e0 : ∀ a : Act, ∀ o : Oper, ∀ x z : Operand, ∀ W : World, o.op = .slice 9 x none (some z) none → a.eval x = strV t → a.eval z = .int .i64 2 → (execOp a.eval o).run Tryd.prog W = .ok (.value (strV (t.take 2))) W := fun a o x z W h1 h2 h3 => exec_sto (n := 2) h1 h2 h3 (by omega)
      have e1 : ∀ a : Act, ∀ o : Oper, ∀ x y z : Operand, ∀ W : World, o.op = .slice 9 x (some y) (some z) none → a.eval x = strV t → a.eval y = .int .i64 2 → a.eval z = .int .i64 4 → (execOp a.eval o).run Tryd.prog W = .ok (.value (strV ((t.take 4).drop 2))) W := fun a o x y z W h1 h2 h3 h4 => exec_smid (n := 2) (m := 4) h1 h2 h3 h4 (by omega) (by omega)
      have e2 : ∀ a : Act, ∀ o : Oper, ∀ x y z : Operand, ∀ W : World, o.op = .slice 9 x (some y) (some z) none → a.eval x = strV t → a.eval y = .int .i64 4 → a.eval z = .int .i64 6 → (execOp a.eval o).run Tryd.prog W = .ok (.value (strV ((t.take 6).drop 4))) W := fun a o x y z W h1 h2 h3 h4 => exec_smid (n := 4) (m := 6) h1 h2 h3 h4 (by omega) (by omega)
      have e3 : ∀ a : Act, ∀ o : Oper, ∀ x y z : Operand, ∀ W : World, o.op = .slice 9 x (some y) (some z) none → a.eval x = strV t → a.eval y = .int .i64 6 → a.eval z = .int .i64 8 → (execOp a.eval o).run Tryd.prog W = .ok (.value (strV ((t.take 8).drop 6))) W := fun a o x y z W h1 h2 h3 h4 => exec_smid (n := 6) (m := 8) h1 h2 h3 h4 (by omega) (by omega)
      have e4 : ∀ a : Act, ∀ o : Oper, ∀ x y : Operand, ∀ W : World, o.op = .slice 9 x (some y) none none → a.eval x = strV t → a.eval y = .int .i64 8 → (execOp a.eval o).run Tryd.prog W = .ok (.value (strV (t.drop 8))) W := fun a o x y W h1 h2 h3 => exec_sfrom (n := 8) h1 h2 h3 (by omega)
      have E0 := Lib.hid e0
      have E1 := Lib.hid e1
      have E2 := Lib.hid e2
      have E3 := Lib.hid e3
      have E4 := Lib.hid e4
      clear e0 e1 e2 e3 e4 ha how hlen hq HD HN
      generalize hx0 : t.take 2 = x0 at *
      generalize hx1 : (t.take 4).drop 2 = x1 at *
      generalize hx2 : (t.take 6).drop 4 = x2 at *
      generalize hx3 : (t.take 8).drop 6 = x3 at *
      generalize hx4 : t.drop 8 = x4 at *
      clear hx0 hx1 hx2 hx3 hx4
      have hld : 1 ≤ val x0 → val x0 ≤ 12 → ∀ W : World, Calls Tryd.prog 33 #[strV x0] W fun e w' => e = .returned (strV (dayS (val x0))) ∧ w' = W := fun h1 h2 W => lastDay_walk HX0.out.1 HX0.out.2 h1 h2 W
      have HLD := Lib.hid hld
      clear hld
      go_upto_region 3 with (go_at_call 27; refine HW.out.mono ?_; rintro e w0 ⟨rfl, ht1⟩)
      have HT1 := Lib.hid (show Turn nowhere w w0.drew from ht1.drew)
      clear ht1 HW
      refine wp_region_till (fun _ => True) 15 (by kernel_rfl) ?_
      generalize w0.drew = w1 at *
      refine till_pure (i := 0) (v := strV t) rfl (by kernel_rfl) (by kernel_rfl) (fun _ _ _ h => h) (.inl ⟨by rfl, fun W hW => exec_move rfl rfl⟩) trivial ?_
      simp only [Act.put, List.setIfInBounds_toArray, List.set_cons_zero, List.set_cons_succ]
      refine till_pure (i := 1) (v := strV x0) rfl (by kernel_rfl) (by kernel_rfl) (fun _ _ _ h => h) (.inl ⟨by rfl, fun W hW => E0.out _ _ _ _ _ rfl rfl rfl⟩) trivial ?_
      simp only [Act.put, List.setIfInBounds_toArray, List.set_cons_zero, List.set_cons_succ]
      refine till_pure (i := 2) (v := strV t) rfl (by kernel_rfl) (by kernel_rfl) (fun _ _ _ h => h) (.inl ⟨by rfl, fun W hW => exec_move rfl rfl⟩) trivial ?_
      simp only [Act.put, List.setIfInBounds_toArray, List.set_cons_zero, List.set_cons_succ]
      refine till_pure (i := 3) (v := strV x1) rfl (by kernel_rfl) (by kernel_rfl) (fun _ _ _ h => h) (.inl ⟨by rfl, fun W hW => E1.out _ _ _ _ _ _ rfl rfl rfl rfl⟩) trivial ?_
      simp only [Act.put, List.setIfInBounds_toArray, List.set_cons_zero, List.set_cons_succ]
      refine till_pure (i := 4) (v := strV t) rfl (by kernel_rfl) (by kernel_rfl) (fun _ _ _ h => h) (.inl ⟨by rfl, fun W hW => exec_move rfl rfl⟩) trivial ?_
      simp only [Act.put, List.setIfInBounds_toArray, List.set_cons_zero, List.set_cons_succ]
      refine till_pure (i := 5) (v := strV x2) rfl (by kernel_rfl) (by kernel_rfl) (fun _ _ _ h => h) (.inl ⟨by rfl, fun W hW => E2.out _ _ _ _ _ _ rfl rfl rfl rfl⟩) trivial ?_
      simp only [Act.put, List.setIfInBounds_toArray, List.set_cons_zero, List.set_cons_succ]
      refine till_pure (i := 6) (v := strV t) rfl (by kernel_rfl) (by kernel_rfl) (fun _ _ _ h => h) (.inl ⟨by rfl, fun W hW => exec_move rfl rfl⟩) trivial ?_
      simp only [Act.put, List.setIfInBounds_toArray, List.set_cons_zero, List.set_cons_succ]
      refine till_pure (i := 7) (v := strV x3) rfl (by kernel_rfl) (by kernel_rfl) (fun _ _ _ h => h) (.inl ⟨by rfl, fun W hW => E3.out _ _ _ _ _ _ rfl rfl rfl rfl⟩) trivial ?_
      simp only [Act.put, List.setIfInBounds_toArray, List.set_cons_zero, List.set_cons_succ]
      refine till_pure (i := 8) (v := strV t) rfl (by kernel_rfl) (by kernel_rfl) (fun _ _ _ h => h) (.inl ⟨by rfl, fun W hW => exec_move rfl rfl⟩) trivial ?_
      simp only [Act.put, List.setIfInBounds_toArray, List.set_cons_zero, List.set_cons_succ]
      refine till_pure (i := 9) (v := strV x4) rfl (by kernel_rfl) (by kernel_rfl) (fun _ _ _ h => h) (.inl ⟨by rfl, fun W hW => E4.out _ _ _ _ _ rfl rfl rfl⟩) trivial ?_
      simp only [Act.put, List.setIfInBounds_toArray, List.set_cons_zero, List.set_cons_succ]
      refine till_tail 10 rfl (by kernel_rfl) ?_
      go_wp2_with fail
      refine NoPanic.normal ?_
      have HWD := HX
      go_upto_region 4 with fail
      refine wp_region_lit ?_
      refine wpList_run (v := strV x0) rfl (exec_move rfl rfl) ?_
      simp only [Act.put, List.setIfInBounds_toArray, List.set_cons_zero, List.set_cons_succ]
      by_cases hc0 : 1 ≤ val x0
      · have HE0 := Lib.hid hc0
        refine wpList_run (v := .bool true) (w' := w1) rfl (by rw [show Value.bool true = .bool (Op.bytesLess [48, 49] x0 || [48, 49] == x0) from by rw [leq_val (by rw [HX0.out.1]; rfl) (by exact allD_two (by decide) (by decide)) HX0.out.2]; exact congrArg _ (decide_eq_true hc0).symm]; exact exec_sleq rfl rfl rfl) ?_
        simp only [Act.put, List.setIfInBounds_toArray, List.set_cons_zero, List.set_cons_succ]
        have HC0 := hc0
        refine wpList_run (v := .bool true) rfl (exec_move rfl rfl) ?_
        simp only [Act.put, List.setIfInBounds_toArray, List.set_cons_zero, List.set_cons_succ]
        refine wpList_run (v := strV x0) rfl (exec_move rfl rfl) ?_
        simp only [Act.put, List.setIfInBounds_toArray, List.set_cons_zero, List.set_cons_succ]
        by_cases hc1 : val x0 ≤ 12
        · have HE1 := Lib.hid hc1
          refine wpList_run (v := .bool true) (w' := w1) rfl (by rw [show Value.bool true = .bool (Op.bytesLess x0 [49, 50] || x0 == [49, 50]) from by rw [leq_val (by rw [HX0.out.1]; rfl) HX0.out.2 (by exact allD_two (by decide) (by decide))]; exact congrArg _ (decide_eq_true hc1).symm]; exact exec_sleq rfl rfl rfl) ?_
          simp only [Act.put, List.setIfInBounds_toArray, List.set_cons_zero, List.set_cons_succ]
          have HC1 := hc1
          refine wpList_run (v := .bool true) (w' := w1) rfl (by go_simp) ?_
          simp only [Act.put, List.setIfInBounds_toArray, List.set_cons_zero, List.set_cons_succ]
          refine wpList_run (v := .bool true) rfl (exec_move rfl rfl) ?_
          simp only [Act.put, List.setIfInBounds_toArray, List.set_cons_zero, List.set_cons_succ]
          refine wpList_run (v := strV x1) rfl (exec_move rfl rfl) ?_
          simp only [Act.put, List.setIfInBounds_toArray, List.set_cons_zero, List.set_cons_succ]
          by_cases hc2 : 1 ≤ val x1
          · have HE2 := Lib.hid hc2
            refine wpList_run (v := .bool true) (w' := w1) rfl (by rw [show Value.bool true = .bool (Op.bytesLess [48, 49] x1 || [48, 49] == x1) from by rw [leq_val (by rw [HX1.out.1]; rfl) (by exact allD_two (by decide) (by decide)) HX1.out.2]; exact congrArg _ (decide_eq_true hc2).symm]; exact exec_sleq rfl rfl rfl) ?_
            simp only [Act.put, List.setIfInBounds_toArray, List.set_cons_zero, List.set_cons_succ]
            refine wpList_run (v := .bool true) (w' := w1) rfl (by go_simp) ?_
            simp only [Act.put, List.setIfInBounds_toArray, List.set_cons_zero, List.set_cons_succ]
            refine wpList_run (v := .bool true) rfl (exec_move rfl rfl) ?_
            simp only [Act.put, List.setIfInBounds_toArray, List.set_cons_zero, List.set_cons_succ]
            refine wpList_run (v := strV x1) rfl (exec_move rfl rfl) ?_
            simp only [Act.put, List.setIfInBounds_toArray, List.set_cons_zero, List.set_cons_succ]
            refine wpList_run (v := strV x0) rfl (exec_move rfl rfl) ?_
            simp only [Act.put, List.setIfInBounds_toArray, List.set_cons_zero, List.set_cons_succ]
            refine wpList_do rfl fun K1 hK1 => ?_
            have HK1 := Lib.hid hK1
            clear hK1
            go_wp2_with fail
            refine (HLD.out HC0 HC1 _).mono ?_
            rintro e w2 ⟨rfl, hw2⟩
            rw [hw2]
            clear hw2
            refine HK1.out _ _ ?_
            clear HK1
            try simp only [Act.put, List.setIfInBounds_toArray, List.set_cons_zero, List.set_cons_succ]
            by_cases hc3 : val x1 ≤ days (val x0)
            · have HE3 := Lib.hid hc3
              refine wpList_run (v := .bool true) (w' := w1) rfl (by rw [show Value.bool true = .bool (Op.bytesLess x1 (dayS (val x0)) || x1 == dayS (val x0)) from by rw [leq_val (by rw [HX1.out.1, dayS_len]) HX1.out.2 (dayS_all _), dayS_val]; exact congrArg _ (decide_eq_true hc3).symm]; exact exec_sleq rfl rfl rfl) ?_
              simp only [Act.put, List.setIfInBounds_toArray, List.set_cons_zero, List.set_cons_succ]
              refine wpList_run (v := .bool true) (w' := w1) rfl (by go_simp) ?_
              simp only [Act.put, List.setIfInBounds_toArray, List.set_cons_zero, List.set_cons_succ]
              refine wpList_run (v := .bool true) rfl (exec_move rfl rfl) ?_
              simp only [Act.put, List.setIfInBounds_toArray, List.set_cons_zero, List.set_cons_succ]
              refine wpList_run (v := strV x2) rfl (exec_move rfl rfl) ?_
              simp only [Act.put, List.setIfInBounds_toArray, List.set_cons_zero, List.set_cons_succ]
              by_cases hc4 : val x2 ≤ 23
              · have HE4 := Lib.hid hc4
                refine wpList_run (v := .bool true) (w' := w1) rfl (by rw [show Value.bool true = .bool (Op.bytesLess x2 [50, 51] || x2 == [50, 51]) from by rw [leq_val (by rw [HX2.out.1]; rfl) HX2.out.2 (by exact allD_two (by decide) (by decide))]; exact congrArg _ (decide_eq_true hc4).symm]; exact exec_sleq rfl rfl rfl) ?_
                simp only [Act.put, List.setIfInBounds_toArray, List.set_cons_zero, List.set_cons_succ]
                refine wpList_run (v := .bool true) (w' := w1) rfl (by go_simp) ?_
                simp only [Act.put, List.setIfInBounds_toArray, List.set_cons_zero, List.set_cons_succ]
                refine wpList_run (v := .bool true) rfl (exec_move rfl rfl) ?_
                simp only [Act.put, List.setIfInBounds_toArray, List.set_cons_zero, List.set_cons_succ]
                refine wpList_run (v := strV x3) rfl (exec_move rfl rfl) ?_
                simp only [Act.put, List.setIfInBounds_toArray, List.set_cons_zero, List.set_cons_succ]
                by_cases hc5 : val x3 ≤ 59
                · have HE5 := Lib.hid hc5
                  refine wpList_run (v := .bool true) (w' := w1) rfl (by rw [show Value.bool true = .bool (Op.bytesLess x3 [53, 57] || x3 == [53, 57]) from by rw [leq_val (by rw [HX3.out.1]; rfl) HX3.out.2 (by exact allD_two (by decide) (by decide))]; exact congrArg _ (decide_eq_true hc5).symm]; exact exec_sleq rfl rfl rfl) ?_
                  simp only [Act.put, List.setIfInBounds_toArray, List.set_cons_zero, List.set_cons_succ]
                  refine wpList_run (v := .bool true) (w' := w1) rfl (by go_simp) ?_
                  simp only [Act.put, List.setIfInBounds_toArray, List.set_cons_zero, List.set_cons_succ]
                  refine wpList_run (v := .bool true) rfl (exec_move rfl rfl) ?_
                  simp only [Act.put, List.setIfInBounds_toArray, List.set_cons_zero, List.set_cons_succ]
                  refine wpList_run (v := strV x4) rfl (exec_move rfl rfl) ?_
                  simp only [Act.put, List.setIfInBounds_toArray, List.set_cons_zero, List.set_cons_succ]
                  by_cases hc6 : val x4 ≤ 59
                  · have HE6 := Lib.hid hc6
                    refine wpList_run (v := .bool true) (w' := w1) rfl (by rw [show Value.bool true = .bool (Op.bytesLess x4 [53, 57] || x4 == [53, 57]) from by rw [leq_val (by rw [HX4.out.1]; rfl) HX4.out.2 (by exact allD_two (by decide) (by decide))]; exact congrArg _ (decide_eq_true hc6).symm]; exact exec_sleq rfl rfl rfl) ?_
                    simp only [Act.put, List.setIfInBounds_toArray, List.set_cons_zero, List.set_cons_succ]
                    clear hc0 hc1 hc2 hc3 hc4 hc5 hc6 HC0 HC1
                    go_wp2_with fail
                    go_ret
                    rw [HWD.out]
                    rw [decide_eq_true ⟨HE0.out, HE1.out, HE2.out, HE3.out, HE4.out, HE5.out, HE6.out⟩]
                    exact ⟨rfl, HT1.out⟩
                  · have HE6 := Lib.hid hc6
                    refine wpList_run (v := .bool false) (w' := w1) rfl (by rw [show Value.bool false = .bool (Op.bytesLess x4 [53, 57] || x4 == [53, 57]) from by rw [leq_val (by rw [HX4.out.1]; rfl) HX4.out.2 (by exact allD_two (by decide) (by decide))]; exact congrArg _ (decide_eq_false hc6).symm]; exact exec_sleq rfl rfl rfl) ?_
                    simp only [Act.put, List.setIfInBounds_toArray, List.set_cons_zero, List.set_cons_succ]
                    clear hc0 hc1 hc2 hc3 hc4 hc5 hc6 HC0 HC1
                    go_wp2_with fail
                    go_ret
                    rw [HWD.out]
                    rw [decide_eq_false (fun h => HE6.out h.2.2.2.2.2.2)]
                    exact ⟨rfl, HT1.out⟩
                · have HE5 := Lib.hid hc5
                  refine wpList_run (v := .bool false) (w' := w1) rfl (by rw [show Value.bool false = .bool (Op.bytesLess x3 [53, 57] || x3 == [53, 57]) from by rw [leq_val (by rw [HX3.out.1]; rfl) HX3.out.2 (by exact allD_two (by decide) (by decide))]; exact congrArg _ (decide_eq_false hc5).symm]; exact exec_sleq rfl rfl rfl) ?_
                  simp only [Act.put, List.setIfInBounds_toArray, List.set_cons_zero, List.set_cons_succ]
                  clear hc0 hc1 hc2 hc3 hc4 hc5 HC0 HC1
                  go_wp2_with fail
                  go_ret
                  rw [HWD.out]
                  rw [decide_eq_false (fun h => HE5.out h.2.2.2.2.2.1)]
                  exact ⟨rfl, HT1.out⟩
              · have HE4 := Lib.hid hc4
                refine wpList_run (v := .bool false) (w' := w1) rfl (by rw [show Value.bool false = .bool (Op.bytesLess x2 [50, 51] || x2 == [50, 51]) from by rw [leq_val (by rw [HX2.out.1]; rfl) HX2.out.2 (by exact allD_two (by decide) (by decide))]; exact congrArg _ (decide_eq_false hc4).symm]; exact exec_sleq rfl rfl rfl) ?_
                simp only [Act.put, List.setIfInBounds_toArray, List.set_cons_zero, List.set_cons_succ]
                clear hc0 hc1 hc2 hc3 hc4 HC0 HC1
                go_wp2_with fail
                go_ret
                rw [HWD.out]
                rw [decide_eq_false (fun h => HE4.out h.2.2.2.2.1)]
                exact ⟨rfl, HT1.out⟩
            · have HE3 := Lib.hid hc3
              refine wpList_run (v := .bool false) (w' := w1) rfl (by rw [show Value.bool false = .bool (Op.bytesLess x1 (dayS (val x0)) || x1 == dayS (val x0)) from by rw [leq_val (by rw [HX1.out.1, dayS_len]) HX1.out.2 (dayS_all _), dayS_val]; exact congrArg _ (decide_eq_false hc3).symm]; exact exec_sleq rfl rfl rfl) ?_
              simp only [Act.put, List.setIfInBounds_toArray, List.set_cons_zero, List.set_cons_succ]
              clear hc0 hc1 hc2 hc3 HC0 HC1
              go_wp2_with fail
              go_ret
              rw [HWD.out]
              rw [decide_eq_false (fun h => HE3.out h.2.2.2.1)]
              exact ⟨rfl, HT1.out⟩
          · have HE2 := Lib.hid hc2
            refine wpList_run (v := .bool false) (w' := w1) rfl (by rw [show Value.bool false = .bool (Op.bytesLess [48, 49] x1 || [48, 49] == x1) from by rw [leq_val (by rw [HX1.out.1]; rfl) (by exact allD_two (by decide) (by decide)) HX1.out.2]; exact congrArg _ (decide_eq_false hc2).symm]; exact exec_sleq rfl rfl rfl) ?_
            simp only [Act.put, List.setIfInBounds_toArray, List.set_cons_zero, List.set_cons_succ]
            clear hc0 hc1 hc2 HC0 HC1
            go_wp2_with fail
            go_ret
            rw [HWD.out]
            rw [decide_eq_false (fun h => HE2.out h.2.2.1)]
            exact ⟨rfl, HT1.out⟩
        · have HE1 := Lib.hid hc1
          refine wpList_run (v := .bool false) (w' := w1) rfl (by rw [show Value.bool false = .bool (Op.bytesLess x0 [49, 50] || x0 == [49, 50]) from by rw [leq_val (by rw [HX0.out.1]; rfl) HX0.out.2 (by exact allD_two (by decide) (by decide))]; exact congrArg _ (decide_eq_false hc1).symm]; exact exec_sleq rfl rfl rfl) ?_
          simp only [Act.put, List.setIfInBounds_toArray, List.set_cons_zero, List.set_cons_succ]
          clear hc0 hc1 HC0
          go_wp2_with fail
          go_ret
          rw [HWD.out]
          rw [decide_eq_false (fun h => HE1.out h.2.1)]
          exact ⟨rfl, HT1.out⟩
      · have HE0 := Lib.hid hc0
        refine wpList_run (v := .bool false) (w' := w1) rfl (by rw [show Value.bool false = .bool (Op.bytesLess [48, 49] x0 || [48, 49] == x0) from by rw [leq_val (by rw [HX0.out.1]; rfl) (by exact allD_two (by decide) (by decide)) HX0.out.2]; exact congrArg _ (decide_eq_false hc0).symm]; exact exec_sleq rfl rfl rfl) ?_
        simp only [Act.put, List.setIfInBounds_toArray, List.set_cons_zero, List.set_cons_succ]
        clear hc0
        go_wp2_with fail
        go_ret
        rw [HWD.out]
        rw [decide_eq_false (fun h => HE0.out h.1)]
        exact ⟨rfl, HT1.out⟩
  · have HX := Lib.hid (show whenD t = false from by rw [HD.out, decide_eq_false (fun h => h10 h.1)]; rfl)
    have y1 : ((n : Int) == 10) = false := by simp; omega
    have y2 : ¬ ((n : Int) = 10) := by omega
    go_wp2_with fail
    go_ret
    rw [HX.out]
    exact ⟨rfl, Turn.refl _ _⟩
end Go.Proofs.YtaabiconfgcnfaaDoor
