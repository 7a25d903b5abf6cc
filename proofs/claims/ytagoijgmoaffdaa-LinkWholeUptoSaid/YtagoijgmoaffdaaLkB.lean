/-
  link's isLength, length, and split's cut, walked. No conditions.
-/
import Derived.Test.YtagoijgmoaffdaaLkA
import Derived.Test.YtagoijgmoaffdaaIop
import Derived.Lib.Hide
namespace Go.Proofs.Ytagoijgmoaffdaa
open Go.RowKit
open Lkk
set_option linter.unusedVariables false
set_option linter.unusedSimpArgs false
theorem isLen_walk (n : Nat) (w : World) : Calls Try.prog 18 #[.int .i64 (n : Int)] w fun e w' => e = .returned (.bool (decide (1 ≤ n ∧ n ≤ 512))) ∧ w' = w := by
  by_cases h1 : 1 ≤ n
  · have y1 : (1 : Int) ≤ (n : Int) := by omega
    by_cases h2 : n ≤ 512
    · have y2 : (n : Int) ≤ 512 := by omega
      rw [decide_eq_true (And.intro h1 h2)]
      clear h1 h2
      go_enter Try.func18, Try.ntmps18
      go_wp2
      go_ret
      exact ⟨rfl, rfl⟩
    · have y2 : ¬ ((n : Int) ≤ 512) := by omega
      rw [decide_eq_false (fun h => h2 h.2)]
      clear h1 h2
      go_enter Try.func18, Try.ntmps18
      go_wp2
      go_ret
      exact ⟨rfl, rfl⟩
  · have y1 : ¬ ((1 : Int) ≤ (n : Int)) := by omega
    rw [decide_eq_false (fun h => h1 h.1)]
    clear h1
    go_enter Try.func18, Try.ntmps18
    go_wp2
    go_ret
    exact ⟨rfl, rfl⟩
theorem bs_cell {w : World} {b off n : Nat} {l : List UInt8} (h : Bs w (some ⟨b, off, none⟩) n l) (i : Nat) (hi : i < n) : w.cell? ⟨b, off + i, none⟩ = some (.int .u8 ((l.getD i 0).toNat : Int)) := by
  obtain ⟨h1, h2, h3⟩ := h
  obtain ⟨b', off', e, hc⟩ := h3 (by omega)
  injection e with e
  injection e with e2 e3
  subst e2 e3
  exact hc i hi
theorem length_walk {w : World} {b off n c : Nat} {l : List UInt8} (h : Bs w (some ⟨b, off, none⟩) n l) (hn : 2 ≤ n) : Calls Try.prog 21 #[.slice (some ⟨b, off, none⟩) n c] w fun e w' => e = .returned (.int .i64 ((hdr l : Nat) : Int)) ∧ Turn nowhere w w' := by
  have c0 := bs_cell h 0 (by omega)
  have c1 := bs_cell h 1 (by omega)
  have l0 := (l.getD 0 0).toNat_lt
  have l1 := (l.getD 1 0).toNat_lt
  have he : hdr l = 256 * (l.getD 0 0).toNat + (l.getD 1 0).toNat := rfl
  generalize (l.getD 0 0).toNat = x at *
  generalize (l.getD 1 0).toNat = y at *
  rw [he]
  have HN := Lib.hid hn
  have HX := Lib.hid l0
  have HY := Lib.hid l1
  clear h he hn l0 l1
  go_enter Try.func21, Try.ntmps21
  go_upto_region 1 with fail
  refine wp_region_alw (fun W => W.cell? ⟨b, off + 0, none⟩ = some (.int .u8 (x : Int)) ∧ W.cell? ⟨b, off + 1, none⟩ = some (.int .u8 (y : Int))) (by kernel_rfl) ?_
  have hS : w.drew.cell? ⟨b, off + 0, none⟩ = some (.int .u8 (x : Int)) ∧ w.drew.cell? ⟨b, off + 1, none⟩ = some (.int .u8 (y : Int)) := ⟨c0, c1⟩

  refine alw_take (i := 0) (v := .slice (some ⟨b, off, none⟩) n c) rfl (by kernel_rfl) (by kernel_rfl) (fun _ _ _ h => h) (.inl ⟨by rfl, fun W hW => exec_move rfl rfl⟩) hS ?_
  simp only [Act.put, List.setIfInBounds_toArray, List.set_cons_zero, List.set_cons_succ]
  refine alw_take (i := 1) (v := .pointer (some ⟨b, off + 0, none⟩)) rfl (by kernel_rfl) (by kernel_rfl) (fun _ _ _ h => h) (.inl ⟨by rfl, fun W hW => gx_iaddr (i := 0) (sz := 1) rfl rfl rfl Try.underlying22 (by kernel_rfl) (by have := HN.out; omega) (by omega)⟩) hS ?_
  simp only [Act.put, List.setIfInBounds_toArray, List.set_cons_zero, List.set_cons_succ]
  refine alw_take (i := 2) (v := .int .u8 (x : Int)) rfl (by kernel_rfl) (by kernel_rfl) (fun _ _ _ h => h) (.inl ⟨by rfl, fun W hW => lx_byte rfl rfl hW.1⟩) hS ?_
  simp only [Act.put, List.setIfInBounds_toArray, List.set_cons_zero, List.set_cons_succ]
  refine alw_take (i := 3) (v := .int .i64 (x : Int)) rfl (by kernel_rfl) (by kernel_rfl) (fun _ _ _ h => h) (.inl ⟨by rfl, fun W hW => ix_b2i HX.out rfl rfl⟩) hS ?_
  simp only [Act.put, List.setIfInBounds_toArray, List.set_cons_zero, List.set_cons_succ]
  refine alw_take (i := 4) (v := .int .i64 ((256 * x : Nat) : Int)) rfl (by kernel_rfl) (by kernel_rfl) (fun _ _ _ h => h) (.inl ⟨by rfl, fun W hW => ix_shl8 rfl rfl HX.out⟩) hS ?_
  simp only [Act.put, List.setIfInBounds_toArray, List.set_cons_zero, List.set_cons_succ]
  refine alw_take (i := 5) (v := .slice (some ⟨b, off, none⟩) n c) rfl (by kernel_rfl) (by kernel_rfl) (fun _ _ _ h => h) (.inl ⟨by rfl, fun W hW => exec_move rfl rfl⟩) hS ?_
  simp only [Act.put, List.setIfInBounds_toArray, List.set_cons_zero, List.set_cons_succ]
  refine alw_take (i := 6) (v := .pointer (some ⟨b, off + 1, none⟩)) rfl (by kernel_rfl) (by kernel_rfl) (fun _ _ _ h => h) (.inl ⟨by rfl, fun W hW => gx_iaddr (i := 1) (sz := 1) rfl rfl rfl Try.underlying22 (by kernel_rfl) (by have := HN.out; omega) (by omega)⟩) hS ?_
  simp only [Act.put, List.setIfInBounds_toArray, List.set_cons_zero, List.set_cons_succ]
  refine alw_take (i := 7) (v := .int .u8 (y : Int)) rfl (by kernel_rfl) (by kernel_rfl) (fun _ _ _ h => h) (.inl ⟨by rfl, fun W hW => lx_byte rfl rfl hW.2⟩) hS ?_
  simp only [Act.put, List.setIfInBounds_toArray, List.set_cons_zero, List.set_cons_succ]
  refine alw_take (i := 8) (v := .int .i64 (y : Int)) rfl (by kernel_rfl) (by kernel_rfl) (fun _ _ _ h => h) (.inl ⟨by rfl, fun W hW => ix_b2i HY.out rfl rfl⟩) hS ?_
  simp only [Act.put, List.setIfInBounds_toArray, List.set_cons_zero, List.set_cons_succ]
  refine alw_take (i := 9) (v := .int .i64 ((256 * x + y : Nat) : Int)) rfl (by kernel_rfl) (by kernel_rfl) (fun _ _ _ h => h) (.inl ⟨by rfl, fun W hW => ix_or8 rfl rfl rfl HX.out HY.out⟩) hS ?_
  simp only [Act.put, List.setIfInBounds_toArray, List.set_cons_zero, List.set_cons_succ]
  refine alw_take (i := 10) (v := .int .i64 ((256 * x + y : Nat) : Int)) rfl (by kernel_rfl) (by kernel_rfl) (fun _ _ _ h => h) (.inl ⟨by rfl, fun W hW => gx_assign rfl rfl⟩) hS ?_
  simp only [Act.put, List.setIfInBounds_toArray, List.set_cons_zero, List.set_cons_succ]
  refine alw_done (by kernel_rfl) ?_
  refine NoPanic.normal ?_
  go_wp2_with fail
  go_ret
  exact ⟨rfl, Turn.drew (Turn.refl _ _)⟩
/-- where a piece of a line begins -/
def pos (A : Option Addr) (k c : Nat) : Option Addr := A.map fun a => if k = c then a else a.add k
theorem pos_at (b off k c : Nat) (h : k < c) : pos (some ⟨b, off, none⟩) k c = some ⟨b, off + k, none⟩ := by
  unfold pos
  rw [Option.map_some, if_neg (by omega), add_nat]
theorem sizeB (W : World) : (sizeOf (Try.prog.elem 22)).run Try.prog W = .ok 1 W := by kernel_rfl
theorem cut_slice3 {a : Act} {o : Oper} {x y z : Operand} {W : World} {A : Option Addr} {n c k : Nat} (ho : o.op = .slice 22 x none (some y) (some z)) (hx : a.eval x = .slice A n c) (hy : a.eval y = .int .i64 (k : Int)) (hz : a.eval z = .int .i64 (k : Int)) (hk : k ≤ c) :
    (execOp a.eval o).run Try.prog W = .ok (.value (.slice A k k)) W := by
  have h := run_slice_hm (P := Try.prog) (w := W) 22 A n c Try.underlying22 .i64 .i64 (k : Int) (k : Int) (by omega) (by omega) (by omega)
  rw [Int.toNat_natCast, sizeB] at h
  unfold execOp
  simp only [ho, Option.map, hx, hy, hz, run_sliceAt_slice (P := Try.prog) W 22 _ _ _ _ Try.underlying22, h, Sem.run_bind, Sem.run_pure, Result.andThen_ok]
  cases A <;> simp [sliced, Addr.add]
theorem cut_slice2 {a : Act} {o : Oper} {x y : Operand} {W : World} {A : Option Addr} {n c k : Nat} (ho : o.op = .slice 22 x (some y) none none) (hx : a.eval x = .slice A n c) (hy : a.eval y = .int .i64 (k : Int)) (hk : k ≤ n) :
    (execOp a.eval o).run Try.prog W = .ok (.value (.slice (pos A k c) (n - k) (c - k))) W := by
  have h := run_slice_l (P := Try.prog) (w := W) 22 A n c Try.underlying22 .i64 (k : Int) (by omega) (by omega)
  rw [Int.toNat_natCast, sizeB] at h
  unfold execOp
  simp only [ho, Option.map, hx, hy, run_sliceAt_slice (P := Try.prog) W 22 _ _ _ _ Try.underlying22, h, Sem.run_bind, Sem.run_pure, Result.andThen_ok]
  unfold sliced pos
  by_cases hc : c = k
  · subst hc
    cases A <;> simp
  · rw [if_neg hc, Nat.mul_one]
    cases A <;> simp
    intro h; exact absurd h.symm hc
theorem cut_slice {a : Act} {o : Oper} {x y z : Operand} {W : World} {A : Option Addr} {n c k m : Nat} (ho : o.op = .slice 22 x (some y) (some z) none) (hx : a.eval x = .slice A n c) (hy : a.eval y = .int .i64 (k : Int)) (hz : a.eval z = .int .i64 (m : Int)) (hk : k ≤ m) (hm : m ≤ c) :
    (execOp a.eval o).run Try.prog W = .ok (.value (.slice (pos A k c) (m - k) (c - k))) W := by
  have h := run_slice_lh (P := Try.prog) (w := W) 22 A n c Try.underlying22 .i64 .i64 (k : Int) (m : Int) (by omega) (by omega) (by omega)
  rw [Int.toNat_natCast, Int.toNat_natCast, sizeB] at h
  unfold execOp
  simp only [ho, Option.map, hx, hy, hz, run_sliceAt_slice (P := Try.prog) W 22 _ _ _ _ Try.underlying22, h, Sem.run_bind, Sem.run_pure, Result.andThen_ok]
  unfold sliced pos
  by_cases hc : c = k
  · subst hc
    cases A <;> simp
  · rw [if_neg hc, Nat.mul_one]
    cases A <;> simp
    intro h; exact absurd h.symm hc
/-- a slice of bytes behind its first k -/
theorem Bs.pos {w : World} {A : Option Addr} {n c k : Nat} {bs : List UInt8} (h : Bs w A n bs) (hk : k ≤ n) (hc : n ≤ c) : Bs w (pos A k c) (n - k) (bs.drop k) := by
  by_cases hp : k < n
  · obtain ⟨b, off, rfl, _⟩ := h.2.2 (by omega)
    rw [pos_at b off k c (by omega)]
    exact h.drop hk
  · have hkn : k = n := by omega
    subst hkn
    rw [Nat.sub_self, List.drop_of_length_le (by rw [h.1]; exact Nat.le_refl _)]
    exact bs_nil w _
theorem pos_none {A : Option Addr} {k c : Nat} : pos A k c = none ↔ A = none := by cases A <;> simp [Go.Proofs.Ytagoijgmoaffdaa.pos]
theorem pos_block {A : Option Addr} {k c b off : Nat} {s : Option Nat} (h : pos A k c = some ⟨b, off, s⟩) : ∃ off' s', A = some ⟨b, off', s'⟩ := by
  cases A with
  | none => cases h
  | some a =>
    obtain ⟨b0, off0, s0⟩ := a
    unfold Go.Proofs.Ytagoijgmoaffdaa.pos at h
    rw [Option.map_some] at h
    have h := Option.some.inj h
    by_cases e : k = c
    · rw [if_pos e] at h
      exact ⟨off, s, by rw [h]⟩
    · rw [if_neg e] at h
      unfold Addr.add at h
      split at h
      · exact ⟨off, s, by rw [h]⟩
      · injection h with h1 h2 h3
        subst h1
        exact ⟨off0, s0, rfl⟩

end Go.Proofs.Ytagoijgmoaffdaa
