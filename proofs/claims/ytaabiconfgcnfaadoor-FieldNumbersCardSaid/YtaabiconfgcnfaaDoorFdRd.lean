/-
  The reference's Digits. No conditions.
-/
import Derived.Test.YtaabiconfgcnfaaDoorFdRc
namespace Go.Proofs.YtaabiconfgcnfaaDoor
open Go.RowKit
open Fdd
set_option linter.unusedVariables false
set_option linter.unusedSimpArgs false
/-- the last j digits -/
def lowd (m : Nat) : Nat → List UInt8
  | 0 => []
  | j + 1 => UInt8.ofNat (48 + m / 10 ^ j % 10) :: lowd m j
theorem lowd_len (m : Nat) : ∀ j, (lowd m j).length = j
  | 0 => rfl
  | j + 1 => by
    show (lowd m j).length + 1 = j + 1
    rw [lowd_len m j]
theorem lowd_all (m : Nat) : ∀ j, AllD (lowd m j)
  | 0 => fun b hb => by cases hb
  | j + 1 => fun b hb => by
    rcases List.mem_cons.1 hb with rfl | hb
    · rw [digit_nat (Nat.mod_lt _ (by decide))]
      have : m / 10 ^ j % 10 < 10 := Nat.mod_lt _ (by decide)
      omega
    · exact lowd_all m j b hb
theorem lowd_val (m : Nat) : ∀ j, val (lowd m j) = m % 10 ^ j
  | 0 => by simp [lowd, val, Nat.mod_one]
  | j + 1 => by
    show val (UInt8.ofNat (48 + m / 10 ^ j % 10) :: lowd m j) = _
    rw [val_cons, lowd_len, lowd_val m j, digit_nat (Nat.mod_lt _ (by decide)), Nat.pow_succ, Nat.mod_mul]
    rw [show 48 + m / 10 ^ j % 10 - 48 = m / 10 ^ j % 10 by omega, Nat.mul_comm]
    omega
theorem pow_nd (u : Nat) (h : 10 ≤ u) : 10 ^ (Lib.nDigits u - 1) ≤ u := by
  induction u using Nat.strongRecOn with
  | _ u ih =>
    rw [Lib.nDigits_big (by omega), Nat.add_sub_cancel]
    by_cases h2 : u / 10 < 10
    · rw [Lib.nDigits_small h2]
      omega
    · have h3 := ih (u / 10) (by omega) (by omega)
      have h4 := Lib.nDigits_pos (u / 10)
      obtain ⟨d, hd⟩ : ∃ d, Lib.nDigits (u / 10) = d + 1 := ⟨_, (Nat.succ_pred_eq_of_pos h4).symm⟩
      rw [hd] at h3 ⊢
      rw [Nat.add_sub_cancel] at h3
      rw [Nat.pow_succ]
      omega
theorem wrap_u8 {x : Int} (h : 0 ≤ x ∧ x < 256) : IntKind.u8.wrap x = x := by
  simp [IntKind.wrap, IntKind.bits, IntKind.signed]
  omega
theorem dig_yes {m s : Nat} (h1 : 1 ≤ s ∧ s ≤ 18) (h : m / 10 ^ s = 0) : digitsOf (m : Int) (s : Int) = (lowd m s, 0) := by
  have hp : 0 < 10 ^ s := Nat.pow_pos (by decide)
  have hlt : m < 10 ^ s := by
    rcases Nat.div_eq_zero_iff.1 h with h | h
    · omega
    · exact h
  have hd : (digitsOf (m : Int) (s : Int)).2 = 0 := by
    have hi : Lib.itoa (m : Int) = Lib.decDigits m := Lib.itoa_nonneg m
    unfold digitsOf
    rw [if_neg (by omega), if_neg]
    rw [hi, Lib.decDigits_length]
    have hnd : Lib.nDigits m ≤ s := by
      rcases Nat.lt_or_ge s (Lib.nDigits m) with h2 | h2
      · exfalso
        have h3 := pow_nd m
        by_cases hm : m < 10
        · rw [Lib.nDigits_small hm] at h2
          omega
        · have h4 : 10 ^ s ≤ 10 ^ (Lib.nDigits m - 1) := Nat.pow_le_pow_right (by decide) (by omega)
          have := h3 (by omega)
          omega
      · exact h2
    omega
  have hk := digits_ok hd
  have e : (digitsOf (m : Int) (s : Int)).1 = lowd m s := by
    refine val_inj ?_ hk.all (lowd_all m s) ?_
    · rw [hk.len, lowd_len]
      omega
    · have := hk.val
      rw [lowd_val, Nat.mod_eq_of_lt hlt]
      omega
  rw [← e, ← hd]
theorem dig_no {m s : Nat} (h1 : 1 ≤ s ∧ s ≤ 18) (h : m / 10 ^ s ≠ 0) : digitsOf (m : Int) (s : Int) = ([], 41) := by
  unfold digitsOf
  rw [if_neg (by omega)]
  by_cases h2 : (m : Int) < 0 ∨ (s : Int) < ((Lib.itoa (m : Int)).length : Int)
  · rw [if_pos h2]
  · exfalso
    have hd : (digitsOf (m : Int) (s : Int)).2 = 0 := by
      unfold digitsOf
      rw [if_neg (by omega), if_neg h2]
    have hk := digits_ok hd
    have hv := val_lt hk.all
    rw [hk.len, Int.toNat_natCast] at hv
    have := hk.val
    exact h (Nat.div_eq_of_lt (by omega))
def rowd (m s j : Nat) : List UInt8 := List.replicate (s - j) 0 ++ lowd m j
theorem rowd_set {m s j : Nat} (h : j < s) : (rowd m s j).set (s - 1 - j) (UInt8.ofNat (48 + m / 10 ^ j % 10)) = rowd m s (j + 1) := by
  unfold rowd
  have e : s - j = (s - (j + 1)) + 1 := by omega
  rw [e, List.replicate_succ', List.append_assoc, show s - 1 - j = s - (j + 1) by omega, List.set_append_right _ _ (by simp)]
  simp [lowd]
theorem rowd_len {m s j : Nat} (h : j ≤ s) : (rowd m s j).length = s := by
  unfold rowd
  rw [List.length_append, List.length_replicate, lowd_len]
  omega
set_option maxRecDepth 20000 in
set_option maxHeartbeats 1000000 in
theorem rdigits_walk (n size : Int) (w : World) (hn : -9223372036854775808 ≤ n ∧ n ≤ 9223372036854775807) :
    Calls Tryd.prog 14 #[.int .i64 n, .int .i64 size] w fun e w' => e = .returned (.tuple #[strV (digitsOf n size).1, .int .i64 (digitsOf n size).2]) ∧ Turn nowhere w w' := by
  go_enter Tryd.func14, Tryd.ntmps14
  by_cases h1 : size < 1 ∨ 18 < size
  · have HX := Lib.hid (show digitsOf n size = ([], 40) from by unfold digitsOf; rw [if_pos h1])
    rcases h1 with h1 | h1
    · go_wp2_with fail
      go_ret2
      rw [HX.out]
      exact ⟨rfl, Turn.refl _ _⟩
    · have y1 : ¬ (size < 1) := by omega
      go_wp2_with fail
      go_ret2
      rw [HX.out]
      exact ⟨rfl, Turn.refl _ _⟩
  · by_cases h2 : n < 0
    · have HX := Lib.hid (show digitsOf n size = ([], 41) from by unfold digitsOf; rw [if_neg h1, if_pos (.inl h2)])
      have y1 : ¬ (size < 1) := by omega
      have y2 : ¬ (18 < size) := by omega
      go_wp2_with fail
      go_ret2
      rw [HX.out]
      exact ⟨rfl, Turn.refl _ _⟩
    · obtain ⟨m, rfl⟩ : ∃ m : Nat, n = (m : Int) := ⟨n.toNat, by omega⟩
      obtain ⟨s, rfl⟩ : ∃ s : Nat, size = (s : Int) := ⟨size.toNat, by omega⟩
      have HS := Lib.hid (show 1 ≤ s ∧ s ≤ 18 by omega)
      have HY := Lib.hid (dig_yes (m := m) HS.out)
      have HZ := Lib.hid (dig_no (m := m) HS.out)
      have HM := Lib.hid (show (m : Int) ≤ 9223372036854775807 by omega)
      have y1 : ¬ ((s : Int) < 1) := by omega
      have y2 : ¬ (18 < (s : Int)) := by omega
      have y3 : ¬ ((m : Int) < 0) := by omega
      clear h1 h2 hn
      go_upto_region 5 with fail
      refine wp_region_lit ?_
      refine wpList_run (v := .int .i64 (s : Int)) rfl (exec_move rfl rfl) ?_
      simp only [Act.put, List.setIfInBounds_toArray, List.set_cons_zero, List.set_cons_succ]
      refine wpList_run (v := .slice (some ⟨w.heap.size, 0, none⟩) s s) (w' := w.alloc (.cells (bcs (List.replicate s 0)).toArray 5)) rfl (exec_makeV rfl rfl rfl (make_bytes s s (Nat.le_refl _) (by have := HS.out; omega) w)) ?_
      simp only [Act.put, List.setIfInBounds_toArray, List.set_cons_zero, List.set_cons_succ]
      have hg := Blk.new w 5 (bcs (List.replicate s 0)).toArray
      have ht := (Turn.refl nowhere w).alloc (.cells (bcs (List.replicate s 0)).toArray 5)
      generalize (w.alloc (.cells (bcs (List.replicate s 0)).toArray 5)) = w1 at *
      obtain ⟨g, hgg⟩ : ∃ g, g = w.heap.size := ⟨_, rfl⟩
      rw [← hgg] at hg ⊢
      have HGG := Lib.hid hgg
      rw [show List.replicate s 0 = rowd m s 0 by simp [rowd, lowd]] at hg
      have HG := Lib.hid hg
      have HT := Lib.hid ht
      clear hg ht hgg y1 y2 y3
      have y4 : (s : Int) ≤ 18 := by have := HS.out; omega
      have y5 : (1 : Int) ≤ (s : Int) := by have := HS.out; omega
      go_wp2_with fail
      go_loopg [0, 7] s (fun gk v i wr => ∃ j : Nat, j + gk = s ∧ i = .int .i64 ((s : Int) - 1 - (j : Int)) ∧ v = .int .i64 ((m / 10 ^ j : Nat) : Int) ∧ Blk wr g 5 (bcs (rowd m s j)).toArray ∧ Turn nowhere w wr)
      case atStart => exact ⟨0, by omega, by go_num, by simp, HG.out, HT.out⟩
      obtain ⟨j, hjl, rfl, rfl, hblk, htr⟩ := hrel
      have HJL := Lib.hid hjl
      have HBLK := Lib.hid hblk
      have HTR := Lib.hid htr
      clear hjl hblk htr
      by_cases hlt : j < s
      · obtain ⟨q, hq⟩ : ∃ q, q = s - 1 - j := ⟨_, rfl⟩
        have hqi : (s : Int) - 1 - (j : Int) = (q : Int) := by omega
        have hst := rowd_set (m := m) hlt
        have hln := rowd_len (m := m) (s := s) (j := j) (by omega)
        rw [← hq] at hst
        have hlim : m / 10 ^ j ≤ m := Nat.div_le_self _ _
        have hnx : m / 10 ^ (j + 1) = m / 10 ^ j / 10 := by rw [Nat.pow_succ, Nat.div_div_eq_div_mul]
        generalize m / 10 ^ j = mv at *
        have hb : (UInt8.ofNat (48 + mv % 10)).toNat = 48 + mv % 10 := digit_nat (Nat.mod_lt _ (by decide))
        have HLT := Lib.hid hlt
        have HQ := Lib.hid hq
        have HST := Lib.hid hst
        have HLN := Lib.hid hln
        have HNX := Lib.hid hnx
        have HQI := Lib.hid hqi
        rw [hqi]
        generalize UInt8.ofNat (48 + mv % 10) = b at *
        have y6 : (0 : Int) ≤ (q : Int) := by omega
        have y7 : (q : Int) < (s : Int) := by omega
        have y8 : (mv : Int) ≤ 9223372036854775807 := by have := HM.out; omega
        have hb2 : ((b.toNat : Nat) : Int) = 48 + (mv : Int) % 10 := by omega
        have HB := Lib.hid hb2
        clear hlt hq hst hln hnx hqi hlim hb hb2
        go_upto_region 9 with fail
        refine wp_region_lit ?_
        refine wpList_run (v := .slice (some ⟨g, 0, none⟩) s s) rfl (exec_move rfl rfl) ?_
        simp only [Act.put, List.setIfInBounds_toArray, List.set_cons_zero, List.set_cons_succ]
        refine wpList_run (v := .int .i64 (q : Int)) rfl (exec_move rfl rfl) ?_
        simp only [Act.put, List.setIfInBounds_toArray, List.set_cons_zero, List.set_cons_succ]
        refine wpList_run (v := .int .i64 (mv : Int)) rfl (exec_move rfl rfl) ?_
        simp only [Act.put, List.setIfInBounds_toArray, List.set_cons_zero, List.set_cons_succ]
        refine wpList_run (v := .int .i64 ((mv : Int) % 10)) (w' := wr) rfl (by go_simp; exact Int.tmod_eq_emod_of_nonneg (by omega)) ?_
        simp only [Act.put, List.setIfInBounds_toArray, List.set_cons_zero, List.set_cons_succ]
        refine wpList_run (v := .int .i64 (b.toNat : Int)) (w' := wr) rfl (by rw [HB.out]; go_simp; exact wrap_big (by omega) (by omega)) ?_
        simp only [Act.put, List.setIfInBounds_toArray, List.set_cons_zero, List.set_cons_succ]
        refine wpList_run (v := .int .u8 (b.toNat : Int)) (w' := wr) rfl (by have := b.toNat_lt; go_simp; exact wrap_u8 (by omega)) ?_
        simp only [Act.put, List.setIfInBounds_toArray, List.set_cons_zero, List.set_cons_succ]
        have g0 : ∃ u, wr.cell? ⟨g, q, none⟩ = some u := ⟨_, (HBLK.out.cell q).trans (Array.getElem?_eq_getElem (by rw [List.size_toArray, bcs_length, HLN.out]; omega))⟩
        obtain ⟨u, g0⟩ := g0
        have g1 := HBLK.out.frozen q
        have HBK := Lib.hid (show Blk (wr.setCell ⟨g, q, none⟩ (.int .u8 (b.toNat : Int))) g 5 (bcs (rowd m s (j + 1))).toArray from by
          have h := HBLK.out.set_ q (.int .u8 (b.toNat : Int))
          rw [bcs_set, HST.out] at h
          exact h)
        have HTK := Lib.hid (HTR.out.setCell (p := ⟨g, q, none⟩) (fun hb => by have := HGG.out; have hb' : g < w.heap.size := hb; omega) (.int .u8 (b.toNat : Int)))
        go_upto_region 10 with fail
        generalize (wr.setCell ⟨g, q, none⟩ (.int .u8 (b.toNat : Int))) = w2 at *
        refine wp_region_lit ?_
        refine wpList_run (v := .int .i64 (mv : Int)) rfl (exec_move rfl rfl) ?_
        simp only [Act.put, List.setIfInBounds_toArray, List.set_cons_zero, List.set_cons_succ]
        refine wpList_run (v := .int .i64 ((mv / 10 : Nat) : Int)) (w' := w2) rfl (by go_simp; exact wrap_big (by omega) (by omega)) ?_
        simp only [Act.put, List.setIfInBounds_toArray, List.set_cons_zero, List.set_cons_succ]
        go_wp2_with fail
        go_roundg (gk - 1)
        case measure => have := HJL.out; have := HLT.out; omega
        case rel => exact ⟨j + 1, by have := HJL.out; have := HLT.out; omega, by have := HQI.out; go_num, by rw [HNX.out], HBK.out, HTK.out⟩
      · have hje : j = s := by have := HJL.out; omega
        subst hje
        have hbsA : Bs wr (some ⟨g, 0, none⟩) j (lowd m j) := (Row.bs (n := j) (bs := rowd m j j) (by exact HBLK.out) (by rw [rowd_len (Nat.le_refl _)]; exact Nat.le_refl _) (by have := HS.out; unfold maxLen; omega)) |> fun h => by
          rw [List.take_of_length_le (by rw [rowd_len (Nat.le_refl _)]; exact Nat.le_refl _)] at h
          simpa [rowd] using h
        have HBS := Lib.hid hbsA
        have y6 : ¬ ((0 : Int) ≤ (j : Int) - 1 - (j : Int)) := by omega
        clear hlt hbsA
        by_cases hz : m / 10 ^ j = 0
        · have HX := Lib.hid (HY.out hz)
          rw [hz]
          clear hz
          go_upto_region 13 with fail
          refine wp_region_lit ?_
          refine wpList_run (v := .slice (some ⟨g, 0, none⟩) j j) rfl (exec_move rfl rfl) ?_
          simp only [Act.put, List.setIfInBounds_toArray, List.set_cons_zero, List.set_cons_succ]
          refine wpList_run (v := strV (lowd m j)) (w' := wr) rfl (exec_strBs rfl rfl HBS.out) ?_
          simp only [Act.put, List.setIfInBounds_toArray, List.set_cons_zero, List.set_cons_succ]
          generalize lowd m j = ld at *
          go_wp2_with fail
          go_ret2
          rw [HX.out]
          exact ⟨rfl, HTR.out⟩
        · have HX := Lib.hid (HZ.out hz)
          generalize m / 10 ^ j = mv at *
          have y7 : (0 : Int) < (mv : Int) := by omega
          clear hz
          go_wp2_with fail
          go_ret2
          rw [HX.out]
          exact ⟨rfl, HTR.out⟩
end Go.Proofs.YtaabiconfgcnfaaDoor
