/-
  The reference's size, its text for any form, its Take; groatlaw04's FieldTakes, walked. Conditions: the rows read as the program's text lays them.
-/
import Derived.Test.YtgdlidjjogoiaaaGreatDoorFdTm
import Derived.Test.YtgdlidjjogoiaaaGreatDoorFdTn
namespace Go.Proofs.YtgdlidjjogoiaaaGreatDoor
open Go.RowKit
open Fdd
set_option linter.unusedVariables false
set_option linter.unusedSimpArgs false
theorem fsize_le {k : Int} {c n : Nat} (hn : n ≤ 64) : sizeAll (ptsOf k (c : Int) n) ≤ 200 := by
  have hb : ∀ p : Pt, p.size ≤ p.n + 1 := by
    intro p
    unfold Pt.size
    split <;> omega
  unfold ptsOf
  split
  · have := hb ⟨n, sgn, (rws (c : Int).toNat).s⟩
    simp only [sizeAll]
    dsimp only at this
    omega
  · split
    · have := hb ⟨2 * n, hexs, (rws (c : Int).toNat).h⟩
      simp only [sizeAll]
      dsimp only at this
      omega
    · split
      · have h4 := hb ⟨1, mk, (rws (c : Int).toNat).m⟩
        have h5 := hb ⟨n, dec, (rws (c : Int).toNat).d⟩
        simp only [sizeAll]
        dsimp only at h4 h5
        omega
      · have := hb ⟨n, dec, (rws (c : Int).toNat).d⟩
        simp only [sizeAll]
        dsimp only at this
        omega
theorem decAll_take : ∀ (ps : List Pt) (b : List UInt8), decAll ps (b.take (sizeAll ps)) = decAll ps b
  | [], _ => rfl
  | p :: r, b => by
    have ih := decAll_take r (b.drop p.size)
    have h1 : (b.take (sizeAll (p :: r))).take p.size = b.take p.size := by
      rw [List.take_take]
      congr 1
      show min p.size (p.size + sizeAll r) = p.size
      omega
    have h2 : (b.take (sizeAll (p :: r))).drop p.size = (b.drop p.size).take (sizeAll r) := by
      show (b.take (p.size + sizeAll r)).drop p.size = _
      rw [List.drop_take]
      congr 1
      omega
    unfold decAll
    rw [h1, h2, ih]
theorem rpack_len2 : ∀ T : List UInt8, (rpack T).length = T.length / 2
  | [] => rfl
  | [x] => by simp [rpack]
  | a :: b :: r => by
    have := rpack_len2 r
    simp only [rpack, List.length_cons]
    omega
theorem funpack_len (ch : List UInt8) : ∀ b : List UInt8, (unpack ch b).length = 2 * b.length
  | [] => rfl
  | x :: r => by
    have := funpack_len ch r
    simp only [unpack, List.length_cons]
    omega
theorem rchars_len1 {f : Fm} (h : ∀ i x, (rch f i x).length = 1) : ∀ (b : List UInt8) (i : Nat), (rchars f i b).length = b.length
  | [], _ => rfl
  | x :: r, i => by
    show (rch f i x ++ rchars f (i + 1) r).length = _
    rw [List.length_append, h, rchars_len1 h r (i + 1), List.length_cons]
    omega
theorem ll_long {s c n m : Nat} {b : List UInt8} (hc : 1 ≤ c ∧ c ≤ 3) (hb : b.length = m) (hm : m = sizeAll (ptsOf 2 (c : Int) n)) : ∀ S, S = rfix (nf 2 s c) n (rchars (nf 2 s c) 0 b) → (nf 2 s c).right S = true → m ≤ (rbytes (nf 2 s c) S).length := by
  rintro S hS _
  have hcc : c = 1 ∨ c = 2 ∨ c = 3 := by omega
  have hr : rbytes (nf 2 s c) S = rdigits (c : Int) (two S.length) ++ rdigits (c : Int) S := rfl
  rw [hr, List.length_append]
  have key : m ≤ (rdigits (c : Int) S).length := by
    rcases hcc with rfl | rfl | rfl
    · have h1 : (rchars (nf 2 s 1) 0 b).length = b.length := rchars_len1 (fun _ _ => rfl) b 0
      have h2 : S = rchars (nf 2 s 1) 0 b := by
        rw [hS]
        show rfix2 _ (rfix1 _ n _) = _
        rw [show rfix1 (nf 2 s 1) n (rchars (nf 2 s 1) 0 b) = rchars (nf 2 s 1) 0 b from if_neg fun h => absurd h.1 (show ¬ ((1 : Int) = 2) from by decide)]
        exact if_neg fun h => absurd h.1 (show ¬ ((1 : Int) = 2) from by decide)
      show m ≤ S.length
      rw [h2, h1, hb]
      exact Nat.le_refl _
    · have h1 : (rchars (nf 2 s 2) 0 b).length = 2 * b.length := by rw [rchars_raw b 0 (fun _ _ => rfl), funpack_len]
      have hm2 : m = (n + 1) / 2 := hm
      have h3 : (rdigits ((2 : Nat) : Int) S).length = (padded S).length / 2 := rpack_len2 (padded S)
      have h4 := (padded_two S).2
      have h5 : S = rfix1 (nf 2 s 2) n (rchars (nf 2 s 2) 0 b) := by
        rw [hS]
        show rfix2 (nf 2 s 2) (rfix1 (nf 2 s 2) n (rchars (nf 2 s 2) 0 b)) = _
        unfold rfix2
        exact if_neg fun h => absurd h.2.1 (show ¬ ((2 : Int) = 5) from by decide)
      by_cases h6 : (rchars (nf 2 s 2) 0 b).length = n + 1
      · have h7 : S = (rchars (nf 2 s 2) 0 b).drop 1 := by
          rw [h5]
          exact if_pos ⟨rfl, .inr rfl, h6⟩
        have h8 : S.length = n := by rw [h7, List.length_drop, h6]; omega
        omega
      · have h7 : S = rchars (nf 2 s 2) 0 b := by
          rw [h5]
          exact if_neg fun h => h6 h.2.2
        have h8 : S.length = 2 * m := by rw [h7, h1, hb]
        omega
    · have h1 : (rchars (nf 2 s 3) 0 b).length = b.length := rchars_len1 (fun _ _ => rfl) b 0
      have h2 : S = rchars (nf 2 s 3) 0 b := by
        rw [hS]
        show rfix2 _ (rfix1 _ n _) = _
        rw [show rfix1 (nf 2 s 3) n (rchars (nf 2 s 3) 0 b) = rchars (nf 2 s 3) 0 b from if_neg fun h => absurd h.1 (show ¬ ((3 : Int) = 2) from by decide)]
        exact if_neg fun h => absurd h.1 (show ¬ ((3 : Int) = 2) from by decide)
      have h3 : (rdigits ((3 : Nat) : Int) S).length = S.length := rsigns_len 3 S
      rw [h3, h2, h1, hb]
      exact Nat.le_refl _
  omega
theorem text_any {k s c n m cap : Nat} {A : Option Addr} {b : List UInt8} (w : World) (hk : 1 ≤ k ∧ k ≤ 5) (hc : 1 ≤ c ∧ c ≤ 3) (hb : Bs w A m b) (hm : m = sizeAll (ptsOf (k : Int) (c : Int) n)) (hs : 1 ≤ s ∧ s ≤ 64) (hn : n ≤ 64) :
    Calls Tryz.prog 28 #[fmV (nf k s c), .slice A m cap, .int .i64 (n : Int)] w (TextP w (rtext (nf k s c) b n)) := by
  have h200 : m ≤ 200 := by rw [hm]; exact fsize_le hn
  have hn9 : n ≤ 99 := by omega
  have hkk : k = 1 ∨ k = 2 ∨ k = 3 ∨ k = 4 ∨ k = 5 := by omega
  have hcc : c = 1 ∨ c = 2 ∨ c = 3 := by omega
  rcases hkk with rfl | rfl | rfl | rfl | rfl
  · rcases hcc with rfl | rfl | rfl
    · exact text11_walk w hb h200 hs hn9
    · exact text12_walk w hb h200 hs hn9
    · exact text13_walk w hb h200 hs hn9
  · have hll := ll_long (s := s) hc hb.1 hm
    rcases hcc with rfl | rfl | rfl
    · exact text21_walk w hb h200 hs hn9 hll
    · exact text22_walk w hb h200 hs hn9 hll
    · exact text23_walk w hb h200 hs hn9 hll
  · rcases hcc with rfl | rfl | rfl
    · exact text31_walk w hb h200 hs hn9
    · exact text32_walk w hb h200 hs hn9
    · exact text33_walk w hb h200 hs hn9
  · rcases hcc with rfl | rfl | rfl
    · exact text41_walk w hb h200 hs hn9
    · exact text42_walk w hb h200 hs hn9
    · exact text43_walk w hb h200 hs hn9
  · rcases hcc with rfl | rfl | rfl
    · exact text51_walk w hb h200 hs hn9
    · exact text52_walk w hb h200 hs hn9
    · exact text53_walk w hb h200 hs hn9
set_option maxHeartbeats 1000000 in
theorem size11_walk {s n : Nat} (w : World) (hs : s ≤ 64) (hn : n ≤ 64) (he : n = s) :
    Calls Tryz.prog 27 #[.agg #[.int .i64 1, .int .i64 (s : Int), .int .i64 1], .int .i64 (n : Int)] w fun e w' => e = .returned (.int .i64 ((sizeAll (ptsOf 1 1 n) : Nat) : Int)) ∧ Turn nowhere w w' := by
  have hz : sizeAll (ptsOf 1 1 n) = n := rfl
  rw [hz]
  clear hz
  have b0 : (0 : Int) ≤ (s : Int) := by omega
  have b1 : (s : Int) ≤ 64 := by omega
  have b2 : (0 : Int) ≤ (n : Int) := by omega
  have b3 : (n : Int) ≤ 64 := by omega
  subst he
  go_enter Tryz.func27, Tryz.ntmps27
  go_wp2
  go_ret
  exact ⟨ret_int (by omega), (Turn.refl nowhere w).alloc _⟩
set_option maxHeartbeats 1000000 in
theorem size12_walk {s n : Nat} (w : World) (hs : s ≤ 64) (hn : n ≤ 64) (he : n = s) :
    Calls Tryz.prog 27 #[.agg #[.int .i64 1, .int .i64 (s : Int), .int .i64 2], .int .i64 (n : Int)] w fun e w' => e = .returned (.int .i64 ((sizeAll (ptsOf 1 2 n) : Nat) : Int)) ∧ Turn nowhere w w' := by
  have hz : sizeAll (ptsOf 1 2 n) = (n + 1) / 2 := rfl
  rw [hz]
  clear hz
  have b0 : (0 : Int) ≤ (s : Int) := by omega
  have b1 : (s : Int) ≤ 64 := by omega
  have b2 : (0 : Int) ≤ (n : Int) := by omega
  have b3 : (n : Int) ≤ 64 := by omega
  subst he
  go_enter Tryz.func27, Tryz.ntmps27
  go_wp2
  go_ret
  exact ⟨ret_int (by omega), (Turn.refl nowhere w).alloc _⟩
set_option maxHeartbeats 1000000 in
theorem size13_walk {s n : Nat} (w : World) (hs : s ≤ 64) (hn : n ≤ 64) (he : n = s) :
    Calls Tryz.prog 27 #[.agg #[.int .i64 1, .int .i64 (s : Int), .int .i64 3], .int .i64 (n : Int)] w fun e w' => e = .returned (.int .i64 ((sizeAll (ptsOf 1 3 n) : Nat) : Int)) ∧ Turn nowhere w w' := by
  have hz : sizeAll (ptsOf 1 3 n) = n := rfl
  rw [hz]
  clear hz
  have b0 : (0 : Int) ≤ (s : Int) := by omega
  have b1 : (s : Int) ≤ 64 := by omega
  have b2 : (0 : Int) ≤ (n : Int) := by omega
  have b3 : (n : Int) ≤ 64 := by omega
  subst he
  go_enter Tryz.func27, Tryz.ntmps27
  go_wp2
  go_ret
  exact ⟨ret_int (by omega), (Turn.refl nowhere w).alloc _⟩
set_option maxHeartbeats 1000000 in
theorem size21_walk {s n : Nat} (w : World) (hs : s ≤ 64) (hn : n ≤ 64) :
    Calls Tryz.prog 27 #[.agg #[.int .i64 2, .int .i64 (s : Int), .int .i64 1], .int .i64 (n : Int)] w fun e w' => e = .returned (.int .i64 ((sizeAll (ptsOf 2 1 n) : Nat) : Int)) ∧ Turn nowhere w w' := by
  have hz : sizeAll (ptsOf 2 1 n) = n := rfl
  rw [hz]
  clear hz
  have b0 : (0 : Int) ≤ (s : Int) := by omega
  have b1 : (s : Int) ≤ 64 := by omega
  have b2 : (0 : Int) ≤ (n : Int) := by omega
  have b3 : (n : Int) ≤ 64 := by omega
  go_enter Tryz.func27, Tryz.ntmps27
  go_wp2
  go_ret
  exact ⟨ret_int (by omega), (Turn.refl nowhere w).alloc _⟩
set_option maxHeartbeats 1000000 in
theorem size22_walk {s n : Nat} (w : World) (hs : s ≤ 64) (hn : n ≤ 64) :
    Calls Tryz.prog 27 #[.agg #[.int .i64 2, .int .i64 (s : Int), .int .i64 2], .int .i64 (n : Int)] w fun e w' => e = .returned (.int .i64 ((sizeAll (ptsOf 2 2 n) : Nat) : Int)) ∧ Turn nowhere w w' := by
  have hz : sizeAll (ptsOf 2 2 n) = (n + 1) / 2 := rfl
  rw [hz]
  clear hz
  have b0 : (0 : Int) ≤ (s : Int) := by omega
  have b1 : (s : Int) ≤ 64 := by omega
  have b2 : (0 : Int) ≤ (n : Int) := by omega
  have b3 : (n : Int) ≤ 64 := by omega
  go_enter Tryz.func27, Tryz.ntmps27
  go_wp2
  go_ret
  exact ⟨ret_int (by omega), (Turn.refl nowhere w).alloc _⟩
set_option maxHeartbeats 1000000 in
theorem size23_walk {s n : Nat} (w : World) (hs : s ≤ 64) (hn : n ≤ 64) :
    Calls Tryz.prog 27 #[.agg #[.int .i64 2, .int .i64 (s : Int), .int .i64 3], .int .i64 (n : Int)] w fun e w' => e = .returned (.int .i64 ((sizeAll (ptsOf 2 3 n) : Nat) : Int)) ∧ Turn nowhere w w' := by
  have hz : sizeAll (ptsOf 2 3 n) = n := rfl
  rw [hz]
  clear hz
  have b0 : (0 : Int) ≤ (s : Int) := by omega
  have b1 : (s : Int) ≤ 64 := by omega
  have b2 : (0 : Int) ≤ (n : Int) := by omega
  have b3 : (n : Int) ≤ 64 := by omega
  go_enter Tryz.func27, Tryz.ntmps27
  go_wp2
  go_ret
  exact ⟨ret_int (by omega), (Turn.refl nowhere w).alloc _⟩
set_option maxHeartbeats 1000000 in
theorem size31_walk {s n : Nat} (w : World) (hs : s ≤ 64) (hn : n ≤ 64) (he : n = s) :
    Calls Tryz.prog 27 #[.agg #[.int .i64 3, .int .i64 (s : Int), .int .i64 1], .int .i64 (n : Int)] w fun e w' => e = .returned (.int .i64 ((sizeAll (ptsOf 3 1 n) : Nat) : Int)) ∧ Turn nowhere w w' := by
  have hz : sizeAll (ptsOf 3 1 n) = n := rfl
  rw [hz]
  clear hz
  have b0 : (0 : Int) ≤ (s : Int) := by omega
  have b1 : (s : Int) ≤ 64 := by omega
  have b2 : (0 : Int) ≤ (n : Int) := by omega
  have b3 : (n : Int) ≤ 64 := by omega
  subst he
  go_enter Tryz.func27, Tryz.ntmps27
  go_wp2
  go_ret
  exact ⟨ret_int (by omega), (Turn.refl nowhere w).alloc _⟩
set_option maxHeartbeats 1000000 in
theorem size32_walk {s n : Nat} (w : World) (hs : s ≤ 64) (hn : n ≤ 64) (he : n = s) :
    Calls Tryz.prog 27 #[.agg #[.int .i64 3, .int .i64 (s : Int), .int .i64 2], .int .i64 (n : Int)] w fun e w' => e = .returned (.int .i64 ((sizeAll (ptsOf 3 2 n) : Nat) : Int)) ∧ Turn nowhere w w' := by
  have hz : sizeAll (ptsOf 3 2 n) = n := rfl
  rw [hz]
  clear hz
  have b0 : (0 : Int) ≤ (s : Int) := by omega
  have b1 : (s : Int) ≤ 64 := by omega
  have b2 : (0 : Int) ≤ (n : Int) := by omega
  have b3 : (n : Int) ≤ 64 := by omega
  subst he
  go_enter Tryz.func27, Tryz.ntmps27
  go_wp2
  go_ret
  exact ⟨ret_int (by omega), (Turn.refl nowhere w).alloc _⟩
set_option maxHeartbeats 1000000 in
theorem size33_walk {s n : Nat} (w : World) (hs : s ≤ 64) (hn : n ≤ 64) (he : n = s) :
    Calls Tryz.prog 27 #[.agg #[.int .i64 3, .int .i64 (s : Int), .int .i64 3], .int .i64 (n : Int)] w fun e w' => e = .returned (.int .i64 ((sizeAll (ptsOf 3 3 n) : Nat) : Int)) ∧ Turn nowhere w w' := by
  have hz : sizeAll (ptsOf 3 3 n) = n := rfl
  rw [hz]
  clear hz
  have b0 : (0 : Int) ≤ (s : Int) := by omega
  have b1 : (s : Int) ≤ 64 := by omega
  have b2 : (0 : Int) ≤ (n : Int) := by omega
  have b3 : (n : Int) ≤ 64 := by omega
  subst he
  go_enter Tryz.func27, Tryz.ntmps27
  go_wp2
  go_ret
  exact ⟨ret_int (by omega), (Turn.refl nowhere w).alloc _⟩
set_option maxHeartbeats 1000000 in
theorem size41_walk {s n : Nat} (w : World) (hs : s ≤ 64) (hn : n ≤ 64) (he : n = s) :
    Calls Tryz.prog 27 #[.agg #[.int .i64 4, .int .i64 (s : Int), .int .i64 1], .int .i64 (n : Int)] w fun e w' => e = .returned (.int .i64 ((sizeAll (ptsOf 4 1 n) : Nat) : Int)) ∧ Turn nowhere w w' := by
  have hz : sizeAll (ptsOf 4 1 n) = 2 * n := rfl
  rw [hz]
  clear hz
  have b0 : (0 : Int) ≤ (s : Int) := by omega
  have b1 : (s : Int) ≤ 64 := by omega
  have b2 : (0 : Int) ≤ (n : Int) := by omega
  have b3 : (n : Int) ≤ 64 := by omega
  subst he
  go_enter Tryz.func27, Tryz.ntmps27
  go_wp2
  go_ret
  exact ⟨ret_int (by omega), (Turn.refl nowhere w).alloc _⟩
set_option maxHeartbeats 1000000 in
theorem size42_walk {s n : Nat} (w : World) (hs : s ≤ 64) (hn : n ≤ 64) (he : n = s) :
    Calls Tryz.prog 27 #[.agg #[.int .i64 4, .int .i64 (s : Int), .int .i64 2], .int .i64 (n : Int)] w fun e w' => e = .returned (.int .i64 ((sizeAll (ptsOf 4 2 n) : Nat) : Int)) ∧ Turn nowhere w w' := by
  have hz : sizeAll (ptsOf 4 2 n) = (2 * n + 1) / 2 := rfl
  rw [hz]
  clear hz
  have b0 : (0 : Int) ≤ (s : Int) := by omega
  have b1 : (s : Int) ≤ 64 := by omega
  have b2 : (0 : Int) ≤ (n : Int) := by omega
  have b3 : (n : Int) ≤ 64 := by omega
  subst he
  go_enter Tryz.func27, Tryz.ntmps27
  go_wp2
  go_ret
  exact ⟨ret_int (by omega), (Turn.refl nowhere w).alloc _⟩
set_option maxHeartbeats 1000000 in
theorem size43_walk {s n : Nat} (w : World) (hs : s ≤ 64) (hn : n ≤ 64) (he : n = s) :
    Calls Tryz.prog 27 #[.agg #[.int .i64 4, .int .i64 (s : Int), .int .i64 3], .int .i64 (n : Int)] w fun e w' => e = .returned (.int .i64 ((sizeAll (ptsOf 4 3 n) : Nat) : Int)) ∧ Turn nowhere w w' := by
  have hz : sizeAll (ptsOf 4 3 n) = (2 * n + 1) / 2 := rfl
  rw [hz]
  clear hz
  have b0 : (0 : Int) ≤ (s : Int) := by omega
  have b1 : (s : Int) ≤ 64 := by omega
  have b2 : (0 : Int) ≤ (n : Int) := by omega
  have b3 : (n : Int) ≤ 64 := by omega
  subst he
  go_enter Tryz.func27, Tryz.ntmps27
  go_wp2
  go_ret
  exact ⟨ret_int (by omega), (Turn.refl nowhere w).alloc _⟩
set_option maxHeartbeats 1000000 in
theorem size51_walk {s n : Nat} (w : World) (hs : s ≤ 64) (hn : n ≤ 64) (he : n = s) :
    Calls Tryz.prog 27 #[.agg #[.int .i64 5, .int .i64 (s : Int), .int .i64 1], .int .i64 (n : Int)] w fun e w' => e = .returned (.int .i64 ((sizeAll (ptsOf 5 1 n) : Nat) : Int)) ∧ Turn nowhere w w' := by
  have hz : sizeAll (ptsOf 5 1 n) = 1 + (n + 0) := rfl
  rw [hz]
  clear hz
  have b0 : (0 : Int) ≤ (s : Int) := by omega
  have b1 : (s : Int) ≤ 64 := by omega
  have b2 : (0 : Int) ≤ (n : Int) := by omega
  have b3 : (n : Int) ≤ 64 := by omega
  subst he
  go_enter Tryz.func27, Tryz.ntmps27
  go_wp2
  go_ret
  exact ⟨ret_int (by omega), (Turn.refl nowhere w).alloc _⟩
set_option maxHeartbeats 1000000 in
theorem size52_walk {s n : Nat} (w : World) (hs : s ≤ 64) (hn : n ≤ 64) (he : n = s) :
    Calls Tryz.prog 27 #[.agg #[.int .i64 5, .int .i64 (s : Int), .int .i64 2], .int .i64 (n : Int)] w fun e w' => e = .returned (.int .i64 ((sizeAll (ptsOf 5 2 n) : Nat) : Int)) ∧ Turn nowhere w w' := by
  have hz : sizeAll (ptsOf 5 2 n) = 1 + ((n + 1) / 2 + 0) := rfl
  rw [hz]
  clear hz
  have b0 : (0 : Int) ≤ (s : Int) := by omega
  have b1 : (s : Int) ≤ 64 := by omega
  have b2 : (0 : Int) ≤ (n : Int) := by omega
  have b3 : (n : Int) ≤ 64 := by omega
  subst he
  go_enter Tryz.func27, Tryz.ntmps27
  go_wp2
  go_ret
  exact ⟨ret_int (by omega), (Turn.refl nowhere w).alloc _⟩
set_option maxHeartbeats 1000000 in
theorem size53_walk {s n : Nat} (w : World) (hs : s ≤ 64) (hn : n ≤ 64) (he : n = s) :
    Calls Tryz.prog 27 #[.agg #[.int .i64 5, .int .i64 (s : Int), .int .i64 3], .int .i64 (n : Int)] w fun e w' => e = .returned (.int .i64 ((sizeAll (ptsOf 5 3 n) : Nat) : Int)) ∧ Turn nowhere w w' := by
  have hz : sizeAll (ptsOf 5 3 n) = 1 + (n + 0) := rfl
  rw [hz]
  clear hz
  have b0 : (0 : Int) ≤ (s : Int) := by omega
  have b1 : (s : Int) ≤ 64 := by omega
  have b2 : (0 : Int) ≤ (n : Int) := by omega
  have b3 : (n : Int) ≤ 64 := by omega
  subst he
  go_enter Tryz.func27, Tryz.ntmps27
  go_wp2
  go_ret
  exact ⟨ret_int (by omega), (Turn.refl nowhere w).alloc _⟩
theorem size_any {k s c n : Nat} (w : World) (hk : 1 ≤ k ∧ k ≤ 5) (hc : 1 ≤ c ∧ c ≤ 3) (hs : s ≤ 64) (hn : n ≤ 64) (he : k ≠ 2 → n = s) :
    Calls Tryz.prog 27 #[fmV (nf k s c), .int .i64 (n : Int)] w fun e w' => e = .returned (.int .i64 ((sizeAll (ptsOf (k : Int) (c : Int) n) : Nat) : Int)) ∧ Turn nowhere w w' := by
  have hkk : k = 1 ∨ k = 2 ∨ k = 3 ∨ k = 4 ∨ k = 5 := by omega
  have hcc : c = 1 ∨ c = 2 ∨ c = 3 := by omega
  rcases hkk with rfl | rfl | rfl | rfl | rfl
  · rcases hcc with rfl | rfl | rfl
    · exact size11_walk w hs hn (he (by decide))
    · exact size12_walk w hs hn (he (by decide))
    · exact size13_walk w hs hn (he (by decide))
  · rcases hcc with rfl | rfl | rfl
    · exact size21_walk w hs hn
    · exact size22_walk w hs hn
    · exact size23_walk w hs hn
  · rcases hcc with rfl | rfl | rfl
    · exact size31_walk w hs hn (he (by decide))
    · exact size32_walk w hs hn (he (by decide))
    · exact size33_walk w hs hn (he (by decide))
  · rcases hcc with rfl | rfl | rfl
    · exact size41_walk w hs hn (he (by decide))
    · exact size42_walk w hs hn (he (by decide))
    · exact size43_walk w hs hn (he (by decide))
  · rcases hcc with rfl | rfl | rfl
    · exact size51_walk w hs hn (he (by decide))
    · exact size52_walk w hs hn (he (by decide))
    · exact size53_walk w hs hn (he (by decide))
theorem textn {k s c n : Nat} {b : List UInt8} (hk : 1 ≤ k ∧ k ≤ 5) (hc : 1 ≤ c ∧ c ≤ 3) (hs : 1 ≤ s ∧ s ≤ 64) (hn : 1 ≤ n ∧ n ≤ s) (he : k ≠ 2 → n = s) (hl : sizeAll (ptsOf (k : Int) (c : Int) n) ≤ b.length) :
    takeAll (ptsOf (k : Int) (c : Int) n) b = if (rtext (nf k s c) (b.take (sizeAll (ptsOf (k : Int) (c : Int) n))) n).2 = true then .ok ((rtext (nf k s c) (b.take (sizeAll (ptsOf (k : Int) (c : Int) n))) n).1, b.drop (sizeAll (ptsOf (k : Int) (c : Int) n))) else .error 42 := by
  have hd : decAll (ptsOf (k : Int) (c : Int) n) b = if (rtext (nf k s c) (b.take (sizeAll (ptsOf (k : Int) (c : Int) n))) n).2 = true then some (rtext (nf k s c) (b.take (sizeAll (ptsOf (k : Int) (c : Int) n))) n).1 else none := by
    rw [← decAll_take]
    by_cases h2 : k = 2
    · subst h2
      have e2 : (b.take (sizeAll (ptsOf 2 (c : Int) n))).length = sizeAll (ptsOf 2 (c : Int) n) := by rw [List.length_take]; exact Nat.min_eq_left hl
      exact text_ll hc hs hn e2
    · obtain rfl := he h2
      exact text_nl (by omega) hc hs (by rw [List.length_take]; omega)
  unfold takeAll
  rw [if_neg (by omega), hd]
  split
  · rename_i h
    split at h
    · cases h
    · rename_i h2
      rw [if_neg h2]
  · rename_i t h
    split at h
    · rename_i h2
      rw [if_pos h2]
      injection h with h
      rw [h]
    · cases h
def RTake (w : World) (r : Except Int (List UInt8 × List UInt8)) (e : Ending) (w' : World) : Prop := TakeF r w.heap.size e w' ∧ Turn nowhere w w'
def llRes (s c : Nat) (r : Except Int (List UInt8 × List UInt8)) : Except Int (List UInt8 × List UInt8) := match r with
  | .error e => .error e
  | .ok (t, r) => if 1 ≤ val t ∧ (val t : Int) ≤ (s : Int) then takeAll (ptsOf 2 (c : Int) (val t)) r else .error 42
def TaS (b3 : Nat) (x y z : Int) (W : World) : Prop := Blk W b3 24 #[.int .i64 x, .int .i64 y, .int .i64 z]
set_option maxRecDepth 40000 in
set_option maxHeartbeats 4000000 in
theorem rtake_bad {w : World} {f : Fm} {n cap : Nat} {A : Option Addr} (hm : f.may = false) :
    Calls Tryz.prog 11 #[.slice A n cap, fmV f] w (RTake w (.error 40)) := by
  have hmw := rmay_walk f
  rw [hm] at hmw
  have HMW := Lib.hid hmw
  clear hmw hm
  obtain ⟨k, s, c⟩ := f
  unfold fmV at *
  go_enter Tryz.func11, Tryz.ntmps11
  go_upto_region 1 with fail
  have hb0 := Blk.new w 24 #[.int .i64 k, .int .i64 s, .int .i64 c]
  have ht0 := (Turn.refl nowhere w).alloc (.cells #[.int .i64 k, .int .i64 s, .int .i64 c] 24)
  generalize (w.alloc (.cells #[.int .i64 k, .int .i64 s, .int .i64 c] 24)) = w0 at *
  generalize w.heap.size = b2 at *
  refine wp_region_lit ?_
  refine wpList_run (v := fmV ⟨k, s, c⟩) rfl (exec_load rfl rfl (load_blkForm hb0)) ?_
  simp only [Act.put, List.setIfInBounds_toArray, List.set_cons_zero, List.set_cons_succ]
  unfold fmV
  have HT0 := Lib.hid ht0
  clear hb0 ht0
  go_wp2_with (go_at_call 22; refine (HMW.out _).mono ?_; rintro e w1 ⟨rfl, ht1⟩)
  go_ret3
  exact ⟨rfl, HT0.out.trans ht1 (fun _ _ e => e)⟩
theorem build_form3 (x y z : Int) (W : World) : (Instr.build 24 #[(0, .int .i64 x), (1, .int .i64 y), (2, .int .i64 z)]).run Tryz.prog W = .ok (.agg #[.int .i64 x, .int .i64 y, .int .i64 z]) W := by kernel_rfl
theorem zero_form (w : World) : (zeroValue 24).run Tryz.prog w = .ok (.agg #[.int .i64 0, .int .i64 0, .int .i64 0]) w := by kernel_rfl
theorem bfrom_all2 {A : Option Addr} {n c k : Nat} {l : List UInt8} {W : World} (hb : Bs W A n l) (hz : A = none → c = 0) (hc : n ≤ c) (hk : k ≤ n) : ∃ A', (∀ (a : Act) (o : Oper) (x y : Operand), o.op = .slice 22 x (some y) none none → a.eval x = .slice A n c → a.eval y = .int .i64 (k : Int) → (execOp a.eval o).run Tryz.prog W = .ok (.value (.slice A' (n - k) (c - k))) W) ∧ Bs W A' (n - k) (l.drop k) ∧ (A' = none → c - k = 0) := by
  obtain ⟨A', h1, h2, h3⟩ := exec_bfrom (a := { tmps := #[.slice A n c, .int .i64 (k : Int)], defers := [] }) (o := ⟨none, .slice 22 (.tmp 0) (some (.tmp 1)) none none, 0, "", #[], none⟩) rfl rfl rfl hk hc hb hz
  refine ⟨A', fun a o x y ho hx hy => ?_, h2, h3⟩
  rw [← h1]
  unfold execOp
  simp only [ho, hx, hy, Option.map]
  rfl
set_option maxRecDepth 40000 in
set_option maxHeartbeats 8000000 in
theorem rtake_nl {w : World} {k s c n cap : Nat} {A : Option Addr} {b : List UInt8} (hk : 1 ≤ k ∧ k ≤ 5) (hk2 : k ≠ 2) (hc : 1 ≤ c ∧ c ≤ 3) (hs : 1 ≤ s ∧ s ≤ 64) (hb : Bs w A n b) (hcap : n ≤ cap) (hz : A = none → cap = 0) (hn : n ≤ 140737488355328) :
    Calls Tryz.prog 11 #[.slice A n cap, fmV (nf k s c)] w (RTake w ((nf k s c).take b)) := by
  rw [take_nl hk2 (may_nf hk hc hs)]
  have HSZ := Lib.hid (fun W => size_any (k := k) (s := s) (c := c) (n := s) W hk hc (by omega) (by omega) (fun _ => rfl))
  have HTX := Lib.hid (fun W (h : Bs W A (sizeAll (ptsOf (k : Int) (c : Int) s)) (b.take (sizeAll (ptsOf (k : Int) (c : Int) s)))) => text_any (k := k) (s := s) (c := c) (n := s) (cap := cap) W hk hc h rfl hs (by omega))
  have HLG := Lib.hid (textn (n := s) (b := b) hk hc hs (by omega) fun _ => rfl)
  have HSH := Lib.hid (fun h : b.length < sizeAll (ptsOf (k : Int) (c : Int) s) => take_short h)
  have y0 : ((k : Int) == 2) = false := by rw [beq_eq_false_iff_ne]; omega
  have HMW := Lib.hid (fun W => rmay_walk (nf k s c) W)
  rw [may_nf hk hc hs] at HMW
  have HBB := Lib.hid hb
  have HCAP := Lib.hid hcap
  have HZ := Lib.hid hz
  have HN := Lib.hid hn
  obtain ⟨b3, hb3⟩ : ∃ b3, b3 = w.heap.size := ⟨_, rfl⟩
  generalize takeAll (ptsOf (k : Int) (c : Int) s) b = TA at *
  have HTA := Lib.hid (fun (e : Ending) (w' : World) (h : RTake w TA e w') => h)
  clear hb hcap hz hn hk hk2 hc hs
  have hfv : fmV (nf k s c) = .agg #[.int .i64 (k : Int), .int .i64 (s : Int), .int .i64 (c : Int)] := rfl
  rw [hfv] at HSZ HTX HMW ⊢
  clear hfv
  go_enter Tryz.func11, Tryz.ntmps11
  go_upto_region 1 with fail
  have hb0 := Blk.new w 24 #[.int .i64 (k : Int), .int .i64 (s : Int), .int .i64 (c : Int)]
  have ht0 := (Turn.refl nowhere w).alloc (.cells #[.int .i64 (k : Int), .int .i64 (s : Int), .int .i64 (c : Int)] 24)
  generalize (w.alloc (.cells #[.int .i64 (k : Int), .int .i64 (s : Int), .int .i64 (c : Int)] 24)) = w1 at *
  rw [← hb3] at hb0 ⊢
  have HFK := Lib.hid hb0
  have HTT := Lib.hid ht0
  clear hb0 ht0 hb3
  refine wp_region_lit ?_
  refine wpList_run (v := .agg #[.int .i64 (k : Int), .int .i64 (s : Int), .int .i64 (c : Int)]) (w' := w1) rfl (exec_load rfl rfl (load_blkForm HFK.out)) ?_
  simp only [Act.put, List.setIfInBounds_toArray, List.set_cons_zero, List.set_cons_succ]
  go_upto_region 3 with (go_at_call 22; refine (HMW.out _).mono ?_; rintro e w3 ⟨rfl, ht3⟩)
  have HTT := Lib.hid (HTT.out.trans ht3 fun _ _ e => e)
  have HFK := Lib.hid (HFK.out.turn ht3 fun e => e)
  have HBB := Lib.hid (bs_turn HBB.out HTT.out)
  clear ht3
  have d0 : w3.cell? ⟨b3, 0, none⟩ = some (.int .i64 (k : Int)) := HFK.out.cell 0
  have d1 : w3.cell? ⟨b3, 1, none⟩ = some (.int .i64 (s : Int)) := HFK.out.cell 1
  have d2 : w3.cell? ⟨b3, 2, none⟩ = some (.int .i64 (c : Int)) := HFK.out.cell 2
  go_upto_region 13 with fail
  clear d0 d1 d2 y0
  refine wp_region_lit ?_
  refine wpList_run (v := .agg #[.int .i64 (k : Int), .int .i64 (s : Int), .int .i64 (c : Int)]) (w' := w3) rfl (exec_load rfl rfl (load_blkForm HFK.out)) ?_
  simp only [Act.put, List.setIfInBounds_toArray, List.set_cons_zero, List.set_cons_succ]
  refine wpList_run (v := .int .i64 (s : Int)) rfl (exec_move rfl rfl) ?_
  simp only [Act.put, List.setIfInBounds_toArray, List.set_cons_zero, List.set_cons_succ]
  refine wpList_call rfl ?_
  intro K1 HK1
  go_wp2_with fail
  refine (HSZ.out w3).mono ?_
  rintro e w4 ⟨rfl, ht4⟩
  refine HK1.out _ _ ?_
  clear HK1
  try simp only [Act.put, List.setIfInBounds_toArray, List.set_cons_zero, List.set_cons_succ]
  have HT4 := Lib.hid (HTT.out.trans ht4 fun _ _ e => e)
  have HFK4 := Lib.hid (HFK.out.turn ht4 fun e => e)
  have HB4 := Lib.hid (bs_turn HBB.out ht4)
  clear ht4
  generalize sizeAll (ptsOf (k : Int) (c : Int) s) = z at *
  by_cases hlt : n < z
  · have y1 : (n : Int) < (z : Int) := by omega
    have HRE := Lib.hid (HSH.out (by rw [HB4.out.1]; exact hlt))
    clear hlt
    go_wp2_with fail
    exact bodyPost_ret (v := .tuple #[strV [], .slice none 0 0, .int .i64 43]) (by simp [results, Tryz.results11, go_sem, strV]) rfl (HTA.out _ _ (by rw [HRE.out]; exact ⟨rfl, HT4.out⟩))
  · have y1 : ¬ ((n : Int) < (z : Int)) := by omega
    have y2 : decide (n < z) = false := decide_eq_false hlt
    have hzn : z ≤ n := by omega
    have hb4 := bs_take HB4.out hzn
    have HTX := Lib.hid (fun W (h : Bs W A z (b.take z)) => HTX.out W h)
    have HR := Lib.hid (HLG.out (by rw [HB4.out.1]; exact hzn))
    have HZN := Lib.hid hzn
    clear hlt hzn
    go_upto_region 16 with fail
    clear y1 y2
    have hS0 : TaS b3 (k : Int) (s : Int) (c : Int) w4.drew := HFK4.out
    refine wp_region_alw (TaS b3 (k : Int) (s : Int) (c : Int)) (by kernel_rfl) ?_
    refine alw_take (i := 0) (v := .agg #[.int .i64 (k : Int), .int .i64 (s : Int), .int .i64 (c : Int)]) rfl (by kernel_rfl) (by kernel_rfl) (fun _ _ _ h => h) (.inl ⟨by rfl, fun W hW => exec_load rfl rfl (load_blkForm hW)⟩) hS0 ?_
    simp only [Act.put, List.setIfInBounds_toArray, List.set_cons_zero, List.set_cons_succ]
    refine alw_take (i := 1) (v := .slice A n cap) rfl (by kernel_rfl) (by kernel_rfl) (fun _ _ _ h => h) (.inl ⟨by rfl, fun W hW => exec_move rfl rfl⟩) hS0 ?_
    simp only [Act.put, List.setIfInBounds_toArray, List.set_cons_zero, List.set_cons_succ]
    refine alw_take (i := 2) (v := .int .i64 (z : Int)) rfl (by kernel_rfl) (by kernel_rfl) (fun _ _ _ h => h) (.inl ⟨by rfl, fun W hW => exec_move rfl rfl⟩) hS0 ?_
    simp only [Act.put, List.setIfInBounds_toArray, List.set_cons_zero, List.set_cons_succ]
    refine alw_take (i := 3) (v := .slice A z cap) rfl (by kernel_rfl) (by kernel_rfl) (fun _ _ _ h => h) (.inl ⟨by rfl, fun W hW => exec_bto rfl rfl rfl (Nat.le_trans HZN.out HCAP.out)⟩) hS0 ?_
    simp only [Act.put, List.setIfInBounds_toArray, List.set_cons_zero, List.set_cons_succ]
    refine alw_take (i := 4) (v := .int .i64 (s : Int)) rfl (by kernel_rfl) (by kernel_rfl) (fun _ _ _ h => h) (.inl ⟨by rfl, fun W hW => exec_move rfl rfl⟩) hS0 ?_
    simp only [Act.put, List.setIfInBounds_toArray, List.set_cons_zero, List.set_cons_succ]
    refine alw_step (i := 5) (by kernel_rfl) rfl rfl ?_
    intro K1 HK1
    go_wp2_with fail
    refine (HTX.out w4.drew hb4).mono ?_
    rintro e w5 ⟨rfl, ht5⟩
    have hS1 : TaS b3 (k : Int) (s : Int) (c : Int) w5 := Blk.turn (F := nowhere) hS0 ht5 fun e => e
    refine HK1.out _ _ ⟨hS1, ?_⟩
    clear HK1
    generalize rtext (nf k s c) (b.take z) s = rt at *
    obtain ⟨tx, ok⟩ := rt
    refine alw_take (i := 6) (v := .tuple #[strV tx, .bool ok]) rfl (by kernel_rfl) (by kernel_rfl) (fun _ _ _ h => h) (.inl ⟨by rfl, fun W hW => exec_move rfl rfl⟩) hS1 ?_
    simp only [Act.put, List.setIfInBounds_toArray, List.set_cons_zero, List.set_cons_succ]
    refine alw_take (i := 7) (v := strV tx) rfl (by kernel_rfl) (by kernel_rfl) (fun _ _ _ h => h) (.inl ⟨by rfl, fun W hW => exec_ext rfl rfl rfl⟩) hS1 ?_
    simp only [Act.put, List.setIfInBounds_toArray, List.set_cons_zero, List.set_cons_succ]
    refine alw_take (i := 8) (v := .bool ok) rfl (by kernel_rfl) (by kernel_rfl) (fun _ _ _ h => h) (.inl ⟨by rfl, fun W hW => exec_ext rfl rfl rfl⟩) hS1 ?_
    simp only [Act.put, List.setIfInBounds_toArray, List.set_cons_zero, List.set_cons_succ]
    refine alw_take (i := 9) (v := strV tx) rfl (by kernel_rfl) (by kernel_rfl) (fun _ _ _ h => h) (.inl ⟨by rfl, fun W hW => gx_assign rfl rfl⟩) hS1 ?_
    simp only [Act.put, List.setIfInBounds_toArray, List.set_cons_zero, List.set_cons_succ]
    refine alw_take (i := 10) (v := .bool ok) rfl (by kernel_rfl) (by kernel_rfl) (fun _ _ _ h => h) (.inl ⟨by rfl, fun W hW => gx_assign rfl rfl⟩) hS1 ?_
    simp only [Act.put, List.setIfInBounds_toArray, List.set_cons_zero, List.set_cons_succ]
    refine alw_done (by kernel_rfl) ?_
    refine NoPanic.normal ?_
    have HT5 := Lib.hid ((HT4.out.trans (Turn.refl nowhere w4).drew fun _ _ e => e).trans ht5 fun _ _ e => e)
    have HB5 := Lib.hid (bs_turn HB4.out ((Turn.refl nowhere w4).drew.trans ht5 fun _ _ e => e))
    clear hS0 hS1 ht5 hb4
    cases ok with
    | false =>
      have hr := HR.out
      rw [if_neg (by intro h; cases h)] at hr
      have HRE := Lib.hid hr
      clear hr
      go_wp2_with fail
      exact bodyPost_ret (v := .tuple #[strV [], .slice none 0 0, .int .i64 42]) (by simp [results, Tryz.results11, go_sem, strV]) rfl (HTA.out _ _ (by rw [HRE.out]; exact ⟨rfl, HT5.out⟩))
    | true =>
      have hr := HR.out
      rw [if_pos rfl] at hr
      have HR := Lib.hid hr
      clear hr
      go_upto_region 19 with fail
      refine wp_region_lit ?_
      refine wpList_run (v := strV tx) rfl (exec_move rfl rfl) ?_
      simp only [Act.put, List.setIfInBounds_toArray, List.set_cons_zero, List.set_cons_succ]
      refine wpList_run (v := _) rfl (exec_make0 rfl) ?_
      simp only [Act.put, List.setIfInBounds_toArray, List.set_cons_zero, List.set_cons_succ]
      have hown0 := Own.empty w5 w5.heap.size 5 (Nat.le_refl _)
      have hb6 : Bs (w5.alloc (.cells #[] 5)) A n b := bs_turn HB5.out ((Turn.refl nowhere w5).alloc _)
      have hbt : Below w5.heap.size w5 (w5.alloc (.cells #[] 5)) := (Below.refl _ w5).alloc (Nat.le_refl _) _
      have hle3 : w5.heap.size ≤ (w5.alloc (.cells #[] 5)).heap.size := by simp
      generalize (w5.alloc (.cells #[] 5)) = w6 at *
      obtain ⟨A6, hsl, hbs6, hz6⟩ := bfrom_all2 (k := z) hb6 HZ.out HCAP.out HZN.out
      have hdl := hbs6.1
      obtain ⟨rest, hrest⟩ : ∃ rest, rest = b.drop z := ⟨_, rfl⟩
      rw [← hrest] at hbs6 HR hdl
      clear hrest
      refine wpList_run (v := .slice A n cap) rfl (exec_move rfl rfl) ?_
      simp only [Act.put, List.setIfInBounds_toArray, List.set_cons_zero, List.set_cons_succ]
      refine wpList_run (v := .int .i64 (z : Int)) rfl (exec_move rfl rfl) ?_
      simp only [Act.put, List.setIfInBounds_toArray, List.set_cons_zero, List.set_cons_succ]
      refine wpList_run (v := .slice A6 (n - z) (cap - z)) (w' := w6) rfl (hsl _ _ _ _ rfl rfl rfl) ?_
      simp only [Act.put, List.setIfInBounds_toArray, List.set_cons_zero, List.set_cons_succ]
      refine wpList_append_bytes w6 rfl _ _ _ rfl w5.heap.size 5 byteInfo Tryz.underlying22 _ [] rfl hown0 A6 (n - z) (cap - z) rest rfl hbs6 hz6 (by have := HN.out; simp; omega) hle3 ?_
      intro v7 w7 ho7 hb7
      rw [List.nil_append] at ho7
      obtain ⟨A7, n7, c7, rfl, _⟩ := ho7.form
      simp only [Act.put, List.setIfInBounds_toArray, List.set_cons_zero, List.set_cons_succ]
      have HO7 := Lib.hid (own_lower ho7 HT5.out.size)
      have HT7 := Lib.hid (turn_below HT5.out ((hbt.trans hb7).mono HT5.out.size))
      have HRE := HR
      clear ho7 hb7 hown0 hb6 hbt hle3 hsl hbs6 hz6 hdl
      go_wp2_with fail
      exact bodyPost_ret (v := .tuple #[strV tx, .slice A7 n7 c7, .int .i64 0]) (by simp [results, Tryz.results11, go_sem]) rfl (HTA.out _ _ (by rw [HRE.out]; exact ⟨⟨A7, n7, c7, rfl, HO7.out⟩, HT7.out⟩))
theorem val_two (a b : UInt8) (ha : dec.contains a = true) (hb : dec.contains b = true) : val [a, b] = 10 * vOf a + vOf b := by
  rw [dec_byte] at ha hb
  have h1 := of_decide_eq_true ha
  have h2 := of_decide_eq_true hb
  rw [vOf_nat, vOf_nat, if_pos h1, if_pos h2]
  show (0 * 10 + (a.toNat - 48)) * 10 + (b.toNat - 48) = _
  omega
set_option maxRecDepth 40000 in
set_option maxHeartbeats 8000000 in
theorem rtake_ll {w : World} {s c n cap : Nat} {A : Option Addr} {b : List UInt8} (hc : 1 ≤ c ∧ c ≤ 3) (hs : 1 ≤ s ∧ s ≤ 64) (hb : Bs w A n b) (hcap : n ≤ cap) (hz : A = none → cap = 0) (hn : n ≤ 140737488355328) :
    Calls Tryz.prog 11 #[.slice A n cap, fmV (nf 2 s c)] w (RTake w ((nf 2 s c).take b)) := by
  have hk : 1 ≤ 2 ∧ 2 ≤ 5 := by decide
  rw [take_ll (may_nf hk hc hs)]
  show Calls Tryz.prog 11 #[.slice A n cap, fmV (nf 2 s c)] w (RTake w (llRes s c (takeAll (ptsOf 1 (c : Int) 2) b)))
  have HT1 := Lib.hid (fun W (h : Bs W A n b) => rtake_nl (k := 1) (s := 2) (c := c) (cap := cap) (by decide) (by decide) hc (by decide) h hcap hz hn)
  rw [take_nl (k := 1) (by decide) (may_nf (by decide) hc (by decide))] at HT1
  have HSZa := Lib.hid (fun q (hq : 1 ≤ q ∧ q ≤ s) W => size_any (k := 2) (s := s) (c := c) (n := q) W hk hc (by omega) (by omega) (fun h => absurd rfl h))
  have HTXa := Lib.hid (fun q (hq : 1 ≤ q ∧ q ≤ s) (b : List UInt8) (A : Option Addr) (cap : Nat) W (h : Bs W A (sizeAll (ptsOf ((2 : Nat) : Int) (c : Int) q)) (b.take (sizeAll (ptsOf ((2 : Nat) : Int) (c : Int) q)))) => text_any (k := 2) (s := s) (c := c) (n := q) (cap := cap) W hk hc h rfl hs (by omega))
  have HLGa := Lib.hid (fun q (hq : 1 ≤ q ∧ q ≤ s) (b : List UInt8) => textn (k := 2) (s := s) (c := c) (n := q) (b := b) hk hc hs hq fun h => absurd rfl h)
  have HER := Lib.hid (fun e (h : takeAll (ptsOf 1 (c : Int) 2) b = .error e) => takeAll_err h)
  have HOK := Lib.hid (fun t r (h : takeAll (ptsOf 1 (c : Int) 2) b = .ok (t, r)) => (num_right (c : Int) t).1 (ok_take (pts_gm (k := 1) hc) h).1)
  have HRL := Lib.hid (fun (t r : List UInt8) (h : takeAll (ptsOf 1 (c : Int) 2) b = .ok (t, r)) => show r.length ≤ n from by have h2 := (ok_take (pts_gm (k := 1) hc) h).2; rw [← hb.1, ← h2, List.length_append]; omega)
  have HS := Lib.hid hs
  have hTA : takeAll (ptsOf ((1 : Nat) : Int) (c : Int) 2) b = takeAll (ptsOf 1 (c : Int) 2) b := rfl
  rw [hTA] at HT1
  clear hTA
  rw [show ((2 : Nat) : Int) = 2 from rfl] at HSZa HTXa HLGa
  have HMW := Lib.hid (fun W => rmay_walk (nf 2 s c) W)
  rw [may_nf hk hc hs] at HMW
  have HBB := Lib.hid hb
  have HCAP := Lib.hid hcap
  have HZ := Lib.hid hz
  have HN := Lib.hid hn
  obtain ⟨b3, hb3⟩ : ∃ b3, b3 = w.heap.size := ⟨_, rfl⟩
  generalize takeAll (ptsOf 1 (c : Int) 2) b = R1 at *
  clear hb hcap hz hk hc hs
  have hfv : fmV (nf 2 s c) = .agg #[.int .i64 2, .int .i64 (s : Int), .int .i64 (c : Int)] := rfl
  rw [hfv] at HMW HSZa HTXa ⊢
  clear hfv
  go_enter Tryz.func11, Tryz.ntmps11
  go_upto_region 1 with fail
  have hb0 := Blk.new w 24 #[.int .i64 2, .int .i64 (s : Int), .int .i64 (c : Int)]
  have ht0 := (Turn.refl nowhere w).alloc (.cells #[.int .i64 2, .int .i64 (s : Int), .int .i64 (c : Int)] 24)
  generalize (w.alloc (.cells #[.int .i64 2, .int .i64 (s : Int), .int .i64 (c : Int)] 24)) = w1 at *
  rw [← hb3] at hb0 ⊢
  have HFK := Lib.hid hb0
  have HTT := Lib.hid ht0
  clear hb0 ht0 hb3
  refine wp_region_lit ?_
  refine wpList_run (v := .agg #[.int .i64 2, .int .i64 (s : Int), .int .i64 (c : Int)]) (w' := w1) rfl (exec_load rfl rfl (load_blkForm HFK.out)) ?_
  simp only [Act.put, List.setIfInBounds_toArray, List.set_cons_zero, List.set_cons_succ]
  go_upto_region 3 with (go_at_call 22; refine (HMW.out _).mono ?_; rintro e w3 ⟨rfl, ht3⟩)
  have HTT := Lib.hid (HTT.out.trans ht3 fun _ _ e => e)
  have HFK := Lib.hid (HFK.out.turn ht3 fun e => e)
  have HBB := Lib.hid (bs_turn HBB.out HTT.out)
  clear ht3
  have d0 : w3.cell? ⟨b3, 0, none⟩ = some (.int .i64 2) := HFK.out.cell 0
  have d1 : w3.cell? ⟨b3, 1, none⟩ = some (.int .i64 (s : Int)) := HFK.out.cell 1
  have d2 : w3.cell? ⟨b3, 2, none⟩ = some (.int .i64 (c : Int)) := HFK.out.cell 2
  go_upto_region 5 with fail
  refine wp_region_lit ?_
  refine wpList_run (v := .pointer (some ⟨b3, 2, none⟩)) rfl (exec_field (off := 0) (d := 2) rfl rfl (by kernel_rfl)) ?_
  simp only [Act.put, List.setIfInBounds_toArray, List.set_cons_zero, List.set_cons_succ]
  refine wpList_run (v := .int .i64 (c : Int)) (w' := w3) rfl (exec_load1 rfl rfl (by kernel_rfl) d2) ?_
  simp only [Act.put, List.setIfInBounds_toArray, List.set_cons_zero, List.set_cons_succ]
  refine wpList_run (v := .agg #[.int .i64 1, .int .i64 2, .int .i64 (c : Int)]) rfl (exec_build3 rfl rfl rfl rfl (build_form3 1 2 (c : Int) w3)) ?_
  simp only [Act.put, List.setIfInBounds_toArray, List.set_cons_zero, List.set_cons_succ]
  refine wpList_run (v := _) rfl (gx_alloc rfl (zero_form _)) ?_
  simp only [Act.put, List.setIfInBounds_toArray, List.set_cons_zero, List.set_cons_succ]
  refine wpList_store_row rfl 24 _ _ rfl (g := w3.heap.size) (t := 24) #[.int .i64 1, .int .i64 2, .int .i64 (c : Int)] (Blk.new w3 _ _) rfl rfl rfl (by rw [size_form]; rfl) (by intro v hv; simp at hv; rcases hv with rfl | rfl | rfl <;> rfl) ?_
  intro w5 hb5 ht5
  simp only [Act.put]
  have ht35 : Turn nowhere w3 w5 := ((Turn.refl nowhere w3).alloc _).trans ht5 fun k hk e => by have : k = w3.heap.size := e; omega
  have HG5 := Lib.hid hb5
  have HTT := Lib.hid (HTT.out.trans ht35 fun _ _ e => e)
  have HFK := Lib.hid (HFK.out.turn ht35 fun e => e)
  have HBB := Lib.hid (bs_turn HBB.out ht35)
  clear hb5 ht5 ht35 d0 d1 d2
  generalize w3.heap.size = g8 at *
  go_upto_region 6 with fail
  refine wp_region_lit ?_
  refine wpList_run (v := .slice A n cap) rfl (exec_move rfl rfl) ?_
  simp only [Act.put, List.setIfInBounds_toArray, List.set_cons_zero, List.set_cons_succ]
  refine wpList_run (v := .agg #[.int .i64 1, .int .i64 2, .int .i64 (c : Int)]) (w' := w5) rfl (exec_load rfl rfl (load_blkForm HG5.out)) ?_
  simp only [Act.put, List.setIfInBounds_toArray, List.set_cons_zero, List.set_cons_succ]
  go_wp2_with fail
  refine (HT1.out w5 HBB.out).mono ?_
  cases R1 with
  | error ke =>
    rintro e w6 ⟨hf, ht6⟩
    have hf' : e = .returned (.tuple #[strV [], .slice none 0 0, .int .i64 ke]) := hf
    subst hf'
    have hke := HER.out ke rfl
    have y1 : (ke != 0) = true := by
      rcases hke with rfl | rfl <;> rfl
    have HT6 := Lib.hid (HTT.out.trans ht6 fun _ _ e => e)
    clear hf ht6 hke
    go_wp2_with fail
    exact bodyPost_ret (v := .tuple #[strV [], .slice none 0 0, .int .i64 ke]) (by simp [results, Tryz.results11, go_sem, strV]) rfl (show RTake w (.error ke) _ _ from ⟨rfl, HT6.out⟩)
  | ok tr =>
    obtain ⟨tt, rr⟩ := tr
    rintro e w6 ⟨⟨Ar, nr, cr, rfl, hor⟩, ht6⟩
    obtain ⟨htl, hto⟩ := HOK.out tt rr rfl
    obtain ⟨a0, a1, rfl⟩ : ∃ a0 a1, tt = [a0, a1] := by
      match tt, htl with
      | [a0, a1], _ => exact ⟨a0, a1, rfl⟩
    have ha0 : dec.contains a0 = true := by rw [List.contains_iff_mem]; exact onlyOf_mem hto (List.mem_cons_self ..)
    have ha1 : dec.contains a1 = true := by rw [List.contains_iff_mem]; exact onlyOf_mem hto (List.mem_cons_of_mem _ (List.mem_cons_self ..))
    have hv := val_two a0 a1 ha0 ha1
    have hx0 : hexs.contains a0 = true := by rw [List.contains_iff_mem]; exact dec_hex _ (List.contains_iff_mem.1 ha0)
    have hx1 : hexs.contains a1 = true := by rw [List.contains_iff_mem]; exact dec_hex _ (List.contains_iff_mem.1 ha1)
    have hl0 := vOf_lt _ hx0
    have hl1 := vOf_lt _ hx1
    have HV0 := Lib.hid (fun W => valueH_walk a0 hx0 W)
    have HV1 := Lib.hid (fun W => valueH_walk a1 hx1 W)
    obtain ⟨hbr, hcr, hzr⟩ := own_bs hor
    have HBB' := Lib.hid hbr
    have HCAPr := Lib.hid hcr
    have HZr := Lib.hid hzr
    have HTT := Lib.hid (HTT.out.trans ht6 fun _ _ e => e)
    have HFK := Lib.hid (HFK.out.turn ht6 fun e => e)
    clear hor ht6 hto ha0 ha1 hx0 hx1 hbr hcr hzr
    generalize vOf a0 = v0 at *
    generalize vOf a1 = v1 at *
    obtain ⟨q, hq⟩ : ∃ q, q = 10 * v0 + v1 := ⟨_, rfl⟩
    rw [← hq] at hv
    have hres : ∀ (e : Ending) (w' : World), RTake w (if 1 ≤ q ∧ (q : Int) ≤ (s : Int) then takeAll (ptsOf 2 (c : Int) q) rr else .error 42) e w' → RTake w (llRes s c (.ok ([a0, a1], rr))) e w' := by
      intro e w' h
      show RTake w (if 1 ≤ val [a0, a1] ∧ (val [a0, a1] : Int) ≤ (s : Int) then takeAll (ptsOf 2 (c : Int) (val [a0, a1])) rr else .error 42) e w'
      rw [hv]
      exact h
    have HRES := Lib.hid hres
    clear hv hres
    have HQ := Lib.hid hq
    have HVL := Lib.hid (And.intro hl0 hl1)
    clear hq hl0 hl1
    go_upto_region 9 with fail
    have w1 : IntKind.i64.wrap (10 * (v0 : Int)) = 10 * (v0 : Int) := by rw [IntKind.wrap_i64]; have := HVL.out; omega
    have HW1 := Lib.hid w1
    clear w1
    refine wp_region_alw (fun _ => True) (by kernel_rfl) ?_
    refine alw_take (i := 0) (v := strV [a0, a1]) rfl (by kernel_rfl) (by kernel_rfl) (fun _ _ _ h => h) (.inl ⟨by rfl, fun W hW => exec_move rfl rfl⟩) trivial ?_
    simp only [Act.put, List.setIfInBounds_toArray, List.set_cons_zero, List.set_cons_succ]
    refine alw_take (i := 1) (v := .int .u8 (a0.toNat : Int)) rfl (by kernel_rfl) (by kernel_rfl) (fun _ _ _ h => h) (.inl ⟨by rfl, fun W hW => exec_sidx (l := [a0, a1]) (i := 0) rfl rfl rfl (by simp)⟩) trivial ?_
    simp only [Act.put, List.setIfInBounds_toArray, List.set_cons_zero, List.set_cons_succ]
    refine alw_take (i := 4) (v := strV [a0, a1]) rfl (by kernel_rfl) (by kernel_rfl) (fun _ _ _ h => h) (.inl ⟨by rfl, fun W hW => exec_move rfl rfl⟩) trivial ?_
    simp only [Act.put, List.setIfInBounds_toArray, List.set_cons_zero, List.set_cons_succ]
    refine alw_take (i := 5) (v := .int .u8 (a1.toNat : Int)) rfl (by kernel_rfl) (by kernel_rfl) (fun _ _ _ h => h) (.inl ⟨by rfl, fun W hW => exec_sidx (l := [a0, a1]) (i := 1) rfl rfl rfl (by simp)⟩) trivial ?_
    simp only [Act.put, List.setIfInBounds_toArray, List.set_cons_zero, List.set_cons_succ]
    refine alw_step (i := 2) (by kernel_rfl) rfl rfl ?_
    intro K1 HK1
    go_wp2_with fail
    refine (HV0.out _).mono ?_
    rintro e w7 ⟨rfl, hw⟩
    obtain rfl : w6.drew = w7 := hw.symm
    refine HK1.out _ _ ⟨trivial, ?_⟩
    clear HK1
    refine alw_take (i := 3) (v := .int .i64 (10 * (v0 : Int))) rfl (by kernel_rfl) (by kernel_rfl) (fun _ _ _ h => h) (.inl ⟨by rfl, fun W hW => by have h := HW1.out; go_simp⟩) trivial ?_
    simp only [Act.put, List.setIfInBounds_toArray, List.set_cons_zero, List.set_cons_succ]
    refine alw_step (i := 6) (by kernel_rfl) rfl rfl ?_
    intro K1 HK1
    go_wp2_with fail
    refine (HV1.out _).mono ?_
    rintro e w7 ⟨rfl, hw⟩
    obtain rfl : w6.drew = w7 := hw.symm
    refine HK1.out _ _ ⟨trivial, ?_⟩
    clear HK1
    refine alw_take (i := 7) (v := .int .i64 (q : Int)) rfl (by kernel_rfl) (by kernel_rfl) (fun _ _ _ h => h) (.inl ⟨by rfl, fun W hW => exec_iadd rfl rfl rfl (by have := HQ.out; omega) (by have := HQ.out; have := HVL.out; omega)⟩) trivial ?_
    simp only [Act.put, List.setIfInBounds_toArray, List.set_cons_zero, List.set_cons_succ]
    refine alw_take (i := 8) (v := .int .i64 (q : Int)) rfl (by kernel_rfl) (by kernel_rfl) (fun _ _ _ h => h) (.inl ⟨by rfl, fun W hW => gx_assign rfl rfl⟩) trivial ?_
    simp only [Act.put, List.setIfInBounds_toArray, List.set_cons_zero, List.set_cons_succ]
    refine alw_done (by kernel_rfl) ?_
    refine NoPanic.normal ?_
    have HTT := Lib.hid HTT.out.drew
    have HFK : Hid (Blk w6.drew b3 24 #[.int .i64 2, .int .i64 (s : Int), .int .i64 (c : Int)]) := Lib.hid (Blk.drew HFK.out)
    have HBB : Hid (Bs w6.drew Ar nr rr) := Lib.hid (bs_turn HBB'.out (Turn.refl nowhere w6).drew)
    generalize w6.drew = w8 at *
    have d1 : w8.cell? ⟨b3, 1, none⟩ = some (.int .i64 (s : Int)) := HFK.out.cell 1
    have hq0 : (0 : Int) ≤ (q : Int) := by omega
    have hfin : ∀ (w' : World), Turn nowhere w w' → ¬ (1 ≤ q ∧ (q : Int) ≤ (s : Int)) → RTake w (if 1 ≤ q ∧ (q : Int) ≤ (s : Int) then takeAll (ptsOf 2 (c : Int) q) rr else .error 42) (.returned (.tuple #[strV [], .slice none 0 0, .int .i64 42])) w' := by
      intro w' ht hn
      rw [if_neg hn]
      exact ⟨rfl, ht⟩
    have HFIN := Lib.hid hfin
    clear hfin
    by_cases q1 : q < 1
    · have y1 : (q : Int) < 1 := by omega
      have HNO := Lib.hid (show ¬ (1 ≤ q ∧ (q : Int) ≤ (s : Int)) from fun h => by omega)
      clear q1
      go_wp2_with fail
      exact bodyPost_ret (v := .tuple #[strV [], .slice none 0 0, .int .i64 42]) (by simp [results, Tryz.results11, go_sem, strV]) rfl (HRES.out _ _ (HFIN.out _ HTT.out HNO.out))
    · by_cases q2 : s < q
      · have y1 : ¬ ((q : Int) < 1) := by omega
        have y2 : (s : Int) < (q : Int) := by omega
        have HNO := Lib.hid (show ¬ (1 ≤ q ∧ (q : Int) ≤ (s : Int)) from fun h => by omega)
        clear q1 q2
        go_wp2_with fail
        exact bodyPost_ret (v := .tuple #[strV [], .slice none 0 0, .int .i64 42]) (by simp [results, Tryz.results11, go_sem, strV]) rfl (HRES.out _ _ (HFIN.out _ HTT.out HNO.out))
      · have hqs : 1 ≤ q ∧ q ≤ s := by omega
        have y1 : ¬ ((q : Int) < 1) := by omega
        have y2 : ¬ ((s : Int) < (q : Int)) := by omega
        have y3 : decide (s < q) = false := decide_eq_false q2
        have HSZ := Lib.hid (HSZa.out q hqs)
        have HTX := Lib.hid (HTXa.out q hqs rr Ar cr)
        have HLG := Lib.hid (HLGa.out q hqs rr)
        have HSH := Lib.hid (fun h : rr.length < sizeAll (ptsOf 2 (c : Int) q) => take_short h)
        have HN0 := HN
        have HCAP := HCAPr
        have HZ := HZr
        have hnr : nr ≤ 140737488355328 := by have h1 := HBB.out.1; have h2 := HRL.out _ rr rfl; have h3 := HN0.out; omega
        have HN := Lib.hid hnr
        have hif : (if 1 ≤ q ∧ (q : Int) ≤ (s : Int) then takeAll (ptsOf 2 (c : Int) q) rr else .error 42) = takeAll (ptsOf 2 (c : Int) q) rr := if_pos ⟨hqs.1, by omega⟩
        have hres := HRES.out
        rw [hif] at hres
        have HTA := Lib.hid hres
        clear hres HRES
        generalize takeAll (ptsOf 2 (c : Int) q) rr = TA at *
        clear hif hnr hqs q1 q2 HFIN
        go_upto_region 13 with fail
        clear y1 y2 y3 d1 hq0
        refine wp_region_lit ?_
        refine wpList_run (v := .agg #[.int .i64 2, .int .i64 (s : Int), .int .i64 (c : Int)]) (w' := w8) rfl (exec_load rfl rfl (load_blkForm HFK.out)) ?_
        simp only [Act.put, List.setIfInBounds_toArray, List.set_cons_zero, List.set_cons_succ]
        refine wpList_run (v := .int .i64 (q : Int)) rfl (exec_move rfl rfl) ?_
        simp only [Act.put, List.setIfInBounds_toArray, List.set_cons_zero, List.set_cons_succ]
        refine wpList_call rfl ?_
        intro K1 HK1
        go_wp2_with fail
        refine (HSZ.out w8).mono ?_
        rintro e w4 ⟨rfl, ht4⟩
        refine HK1.out _ _ ?_
        clear HK1
        try simp only [Act.put, List.setIfInBounds_toArray, List.set_cons_zero, List.set_cons_succ]
        have HT4 := Lib.hid (HTT.out.trans ht4 fun _ _ e => e)
        have HFK4 := Lib.hid (HFK.out.turn ht4 fun e => e)
        have HB4 := Lib.hid (bs_turn HBB.out ht4)
        clear ht4
        generalize sizeAll (ptsOf 2 (c : Int) q) = z at *
        by_cases hlt : nr < z
        · have y1 : (nr : Int) < (z : Int) := by omega
          have HRE := Lib.hid (HSH.out (by rw [HB4.out.1]; exact hlt))
          clear hlt
          go_wp2_with fail
          exact bodyPost_ret (v := .tuple #[strV [], .slice none 0 0, .int .i64 43]) (by simp [results, Tryz.results11, go_sem, strV]) rfl (HTA.out _ _ (by rw [HRE.out]; exact ⟨rfl, HT4.out⟩))
        · have y1 : ¬ ((nr : Int) < (z : Int)) := by omega
          have y2 : decide (nr < z) = false := decide_eq_false hlt
          have hzn : z ≤ nr := by omega
          have hb4 := bs_take HB4.out hzn
          have HTX := Lib.hid (fun W (h : Bs W Ar z (rr.take z)) => HTX.out W h)
          have HR := Lib.hid (HLG.out (by rw [HB4.out.1]; exact hzn))
          have HZN := Lib.hid hzn
          clear hlt hzn
          go_upto_region 16 with fail
          clear y1 y2
          have hS0 : TaS b3 2 (s : Int) (c : Int) w4.drew := HFK4.out
          refine wp_region_alw (TaS b3 2 (s : Int) (c : Int)) (by kernel_rfl) ?_
          refine alw_take (i := 0) (v := .agg #[.int .i64 2, .int .i64 (s : Int), .int .i64 (c : Int)]) rfl (by kernel_rfl) (by kernel_rfl) (fun _ _ _ h => h) (.inl ⟨by rfl, fun W hW => exec_load rfl rfl (load_blkForm hW)⟩) hS0 ?_
          simp only [Act.put, List.setIfInBounds_toArray, List.set_cons_zero, List.set_cons_succ]
          refine alw_take (i := 1) (v := .slice Ar nr cr) rfl (by kernel_rfl) (by kernel_rfl) (fun _ _ _ h => h) (.inl ⟨by rfl, fun W hW => exec_move rfl rfl⟩) hS0 ?_
          simp only [Act.put, List.setIfInBounds_toArray, List.set_cons_zero, List.set_cons_succ]
          refine alw_take (i := 2) (v := .int .i64 (z : Int)) rfl (by kernel_rfl) (by kernel_rfl) (fun _ _ _ h => h) (.inl ⟨by rfl, fun W hW => exec_move rfl rfl⟩) hS0 ?_
          simp only [Act.put, List.setIfInBounds_toArray, List.set_cons_zero, List.set_cons_succ]
          refine alw_take (i := 3) (v := .slice Ar z cr) rfl (by kernel_rfl) (by kernel_rfl) (fun _ _ _ h => h) (.inl ⟨by rfl, fun W hW => exec_bto rfl rfl rfl (Nat.le_trans HZN.out HCAP.out)⟩) hS0 ?_
          simp only [Act.put, List.setIfInBounds_toArray, List.set_cons_zero, List.set_cons_succ]
          refine alw_take (i := 4) (v := .int .i64 (q : Int)) rfl (by kernel_rfl) (by kernel_rfl) (fun _ _ _ h => h) (.inl ⟨by rfl, fun W hW => exec_move rfl rfl⟩) hS0 ?_
          simp only [Act.put, List.setIfInBounds_toArray, List.set_cons_zero, List.set_cons_succ]
          refine alw_step (i := 5) (by kernel_rfl) rfl rfl ?_
          intro K1 HK1
          go_wp2_with fail
          refine (HTX.out w4.drew hb4).mono ?_
          rintro e w5 ⟨rfl, ht5⟩
          have hS1 : TaS b3 2 (s : Int) (c : Int) w5 := Blk.turn (F := nowhere) hS0 ht5 fun e => e
          refine HK1.out _ _ ⟨hS1, ?_⟩
          clear HK1
          generalize rtext (nf 2 s c) (rr.take z) q = rt at *
          obtain ⟨tx, ok⟩ := rt
          refine alw_take (i := 6) (v := .tuple #[strV tx, .bool ok]) rfl (by kernel_rfl) (by kernel_rfl) (fun _ _ _ h => h) (.inl ⟨by rfl, fun W hW => exec_move rfl rfl⟩) hS1 ?_
          simp only [Act.put, List.setIfInBounds_toArray, List.set_cons_zero, List.set_cons_succ]
          refine alw_take (i := 7) (v := strV tx) rfl (by kernel_rfl) (by kernel_rfl) (fun _ _ _ h => h) (.inl ⟨by rfl, fun W hW => exec_ext rfl rfl rfl⟩) hS1 ?_
          simp only [Act.put, List.setIfInBounds_toArray, List.set_cons_zero, List.set_cons_succ]
          refine alw_take (i := 8) (v := .bool ok) rfl (by kernel_rfl) (by kernel_rfl) (fun _ _ _ h => h) (.inl ⟨by rfl, fun W hW => exec_ext rfl rfl rfl⟩) hS1 ?_
          simp only [Act.put, List.setIfInBounds_toArray, List.set_cons_zero, List.set_cons_succ]
          refine alw_take (i := 9) (v := strV tx) rfl (by kernel_rfl) (by kernel_rfl) (fun _ _ _ h => h) (.inl ⟨by rfl, fun W hW => gx_assign rfl rfl⟩) hS1 ?_
          simp only [Act.put, List.setIfInBounds_toArray, List.set_cons_zero, List.set_cons_succ]
          refine alw_take (i := 10) (v := .bool ok) rfl (by kernel_rfl) (by kernel_rfl) (fun _ _ _ h => h) (.inl ⟨by rfl, fun W hW => gx_assign rfl rfl⟩) hS1 ?_
          simp only [Act.put, List.setIfInBounds_toArray, List.set_cons_zero, List.set_cons_succ]
          refine alw_done (by kernel_rfl) ?_
          refine NoPanic.normal ?_
          have HT5 := Lib.hid ((HT4.out.trans (Turn.refl nowhere w4).drew fun _ _ e => e).trans ht5 fun _ _ e => e)
          have HB5 := Lib.hid (bs_turn HB4.out ((Turn.refl nowhere w4).drew.trans ht5 fun _ _ e => e))
          clear hS0 hS1 ht5 hb4
          cases ok with
          | false =>
            have hr := HR.out
            rw [if_neg (by intro h; cases h)] at hr
            have HRE := Lib.hid hr
            clear hr
            go_wp2_with fail
            exact bodyPost_ret (v := .tuple #[strV [], .slice none 0 0, .int .i64 42]) (by simp [results, Tryz.results11, go_sem, strV]) rfl (HTA.out _ _ (by rw [HRE.out]; exact ⟨rfl, HT5.out⟩))
          | true =>
            have hr := HR.out
            rw [if_pos rfl] at hr
            have HR := Lib.hid hr
            clear hr
            go_upto_region 19 with fail
            refine wp_region_lit ?_
            refine wpList_run (v := strV tx) rfl (exec_move rfl rfl) ?_
            simp only [Act.put, List.setIfInBounds_toArray, List.set_cons_zero, List.set_cons_succ]
            refine wpList_run (v := _) rfl (exec_make0 rfl) ?_
            simp only [Act.put, List.setIfInBounds_toArray, List.set_cons_zero, List.set_cons_succ]
            have hown0 := Own.empty w5 w5.heap.size 5 (Nat.le_refl _)
            have hb6 : Bs (w5.alloc (.cells #[] 5)) Ar nr rr := bs_turn HB5.out ((Turn.refl nowhere w5).alloc _)
            have hbt : Below w5.heap.size w5 (w5.alloc (.cells #[] 5)) := (Below.refl _ w5).alloc (Nat.le_refl _) _
            have hle3 : w5.heap.size ≤ (w5.alloc (.cells #[] 5)).heap.size := by simp
            generalize (w5.alloc (.cells #[] 5)) = w6 at *
            obtain ⟨A6, hsl, hbs6, hz6⟩ := bfrom_all2 (k := z) hb6 HZ.out HCAP.out HZN.out
            have hdl := hbs6.1
            obtain ⟨rest, hrest⟩ : ∃ rest, rest = rr.drop z := ⟨_, rfl⟩
            rw [← hrest] at hbs6 HR hdl
            clear hrest
            refine wpList_run (v := .slice Ar nr cr) rfl (exec_move rfl rfl) ?_
            simp only [Act.put, List.setIfInBounds_toArray, List.set_cons_zero, List.set_cons_succ]
            refine wpList_run (v := .int .i64 (z : Int)) rfl (exec_move rfl rfl) ?_
            simp only [Act.put, List.setIfInBounds_toArray, List.set_cons_zero, List.set_cons_succ]
            refine wpList_run (v := .slice A6 (nr - z) (cr - z)) (w' := w6) rfl (hsl _ _ _ _ rfl rfl rfl) ?_
            simp only [Act.put, List.setIfInBounds_toArray, List.set_cons_zero, List.set_cons_succ]
            refine wpList_append_bytes w6 rfl _ _ _ rfl w5.heap.size 5 byteInfo Tryz.underlying22 _ [] rfl hown0 A6 (nr - z) (cr - z) rest rfl hbs6 hz6 (by have := HN.out; simp; omega) hle3 ?_
            intro v7 w7 ho7 hb7
            rw [List.nil_append] at ho7
            obtain ⟨A7, n7, c7, rfl, _⟩ := ho7.form
            simp only [Act.put, List.setIfInBounds_toArray, List.set_cons_zero, List.set_cons_succ]
            have HO7 := Lib.hid (own_lower ho7 HT5.out.size)
            have HT7 := Lib.hid (turn_below HT5.out ((hbt.trans hb7).mono HT5.out.size))
            have HRE := HR
            clear ho7 hb7 hown0 hb6 hbt hle3 hsl hbs6 hz6 hdl
            go_wp2_with fail
            exact bodyPost_ret (v := .tuple #[strV tx, .slice A7 n7 c7, .int .i64 0]) (by simp [results, Tryz.results11, go_sem]) rfl (HTA.out _ _ (by rw [HRE.out]; exact ⟨⟨A7, n7, c7, rfl, HO7.out⟩, HT7.out⟩))
/-- a slice of the call's own, whatever it holds -/
def Held1 (w : World) (B : Nat) (v : Value) (n : Nat) : Prop := ∃ xs, w.ownsRow B 5 1 v n xs
theorem Held1.of {w : World} {B : Nat} {A : Option Addr} {n c : Nat} {l : List UInt8} (h : Own w B 5 (.slice A n c) l) : Held1 w B (.slice A n c) n := by
  have hl := (own_bs h).1.1
  unfold Own at h
  rw [hl] at h
  exact ⟨_, h⟩
theorem Held1.some {w : World} {B : Nat} {A : Option Addr} {n c : Nat} (h : Held1 w B (.slice A n c) n) (h0 : 0 < n) : ∃ g, A = some ⟨g, 0, none⟩ ∧ B ≤ g ∧ n ≤ c ∧ ∀ k, k < n → (∃ v, w.cell? ⟨g, k, none⟩ = some v) ∧ w.frozen? ⟨g, k, none⟩ = false ∧ ∀ u, Held1 (w.setCell ⟨g, k, none⟩ u) B (.slice A n c) n := by
  obtain ⟨xs, h1, h2⟩ := h
  rcases h2 with ⟨hv, hn⟩ | ⟨g, cap, cur, hv, hg, hb, hn, hm, hs, ht⟩
  · omega
  · injection hv with e1 e2 e3
    subst e1 e3
    refine ⟨g, rfl, hg, hn, fun k hk => ?_⟩
    have hB : Blk w g 5 cur := hb
    refine ⟨⟨cur[k]'(by omega), by rw [hB.cell, Array.getElem?_eq_getElem (by omega)]⟩, hB.frozen k, fun u => ⟨(cur.setIfInBounds k u).toList.take (n * 1), ?_, .inr ⟨g, c, cur.setIfInBounds k u, rfl, hg, hB.set_ k u, hn, hm, by rw [Array.size_setIfInBounds]; exact hs, rfl⟩⟩⟩
    rw [List.length_take]
    simp
    omega
def tk : Except Int (List UInt8 × List UInt8) → List UInt8 × List UInt8 × Int
  | .error k => ([], [], k)
  | .ok (t, r) => (t, r, 0)
def TakeP (w : World) (r : List UInt8 × List UInt8 × Int) (e : Ending) (w' : World) : Prop := ∃ A n c, e = .returned (.tuple #[strV r.1, .slice A n c, .int .i64 r.2.2]) ∧ Own w' w.heap.size 5 (.slice A n c) r.2.1 ∧ Turn nowhere w w'
theorem takeP_of {w w' : World} {r : Except Int (List UInt8 × List UInt8)} {e : Ending} (h : TakeF r w.heap.size e w') (ht : Turn nowhere w w') : TakeP w (tk r) e w' := by
  cases r with
  | error k =>
    have h' : e = .returned (.tuple #[strV [], .slice none 0 0, .int .i64 k]) := h
    exact ⟨none, 0, 0, h', World.ownsRow_nil w' _ _ _, ht⟩
  | ok tr =>
    obtain ⟨t, rest⟩ := tr
    obtain ⟨A, n, c, he, ho⟩ := h
    exact ⟨A, n, c, he, ho, ht⟩
theorem take_all {w : World} {f : Fm} {n cap : Nat} {A : Option Addr} {b : List UInt8} (hr : RowsT w) (hb : Bs w A n b) (hcap : n ≤ cap) (hn : n ≤ 140737488355328) :
    Calls Tryz.prog 10 #[.slice A n cap, fmV f] w (TakeP w (tk (f.take b))) := by
  cases hm : f.may with
  | false =>
    refine (take_bad hm).mono ?_
    rintro e w' ⟨rfl, h2⟩
    have : f.take b = .error 40 := by
      unfold Fm.take
      rw [if_neg (by rw [hm]; decide)]
    rw [this]
    exact ⟨none, 0, 0, rfl, World.ownsRow_nil w' _ _ _, h2⟩
  | true =>
    obtain ⟨k, s, c, rfl, h1, h2, h3⟩ := fm_exp hm
    exact (take_main h1 h2 h3 hr hb hcap hn).mono fun e w' ⟨h, ht⟩ => takeP_of h ht
theorem rtake_all {w : World} {f : Fm} {n cap : Nat} {A : Option Addr} {b : List UInt8} (hb : Bs w A n b) (hcap : n ≤ cap) (hz : A = none → cap = 0) (hn : n ≤ 140737488355328) :
    Calls Tryz.prog 11 #[.slice A n cap, fmV f] w (TakeP w (tk (f.take b))) := by
  cases hm : f.may with
  | false =>
    have : f.take b = .error 40 := by
      unfold Fm.take
      rw [if_neg (by rw [hm]; decide)]
    rw [this]
    exact (rtake_bad hm).mono fun e w' ⟨h, ht⟩ => takeP_of h ht
  | true =>
    obtain ⟨k, s, c, rfl, h1, h2, h3⟩ := fm_exp hm
    by_cases hk : k = 2
    · subst hk
      exact (rtake_ll h2 h3 hb hcap hz hn).mono fun e w' ⟨h, ht⟩ => takeP_of h ht
    · exact (rtake_nl h1 hk h2 h3 hb hcap hz hn).mono fun e w' ⟨h, ht⟩ => takeP_of h ht
set_option maxRecDepth 40000 in
set_option maxHeartbeats 4000000 in
theorem fieldTakes_walk (a : Option Addr) (len cap : Nat) (bs : List UInt8) (f : Fm) (W : World) (hrows : RowsT W) (hb : Bs W a len bs) (hnn : a = none → cap = 0) (hle : len ≤ cap) (hn : len ≤ 140737488351232) :
    Calls Tryz.prog 4 #[.slice a len cap, fmV f] W fun e w' => e = .returned (.bool true) ∧ Below W.heap.size W w' := by
  have HB := Lib.hid hb
  have HR := Lib.hid hrows
  have HZZ := Lib.hid hnn
  have HLE := Lib.hid hle
  have HN := Lib.hid hn
  clear hb hrows hnn hle hn
  have HP := Lib.hid (fun (w : World) (A : Option Addr) (n c : Nat) (h1 : RowsT w) (h2 : Bs w A n bs) (h4 : n ≤ c) (h3 : n ≤ 140737488355328) => take_all (f := f) h1 h2 h4 h3)
  have HQ := Lib.hid (fun (w : World) (A : Option Addr) (n c : Nat) (h2 : Bs w A n bs) (h4 : n ≤ c) (hz : A = none → c = 0) (h3 : n ≤ 140737488355328) => rtake_all (f := f) h2 h4 hz h3)
  unfold TakeP at HP HQ
  generalize tk (f.take bs) = r at *
  obtain ⟨tx, rest, ke⟩ := r
  obtain ⟨x0, x1, x2⟩ := f
  have hfv : fmV ⟨x0, x1, x2⟩ = .agg #[.int .i64 x0, .int .i64 x1, .int .i64 x2] := rfl
  rw [hfv] at HP HQ ⊢
  clear hfv
  obtain ⟨b4, hb4⟩ : ∃ b4, b4 = W.heap.size := ⟨_, rfl⟩
  go_enter Tryz.func4, Tryz.ntmps4
  go_upto_region 1 with fail
  have hb0 := Blk.new W 24 #[.int .i64 x0, .int .i64 x1, .int .i64 x2]
  have ht0 := (Turn.refl nowhere W).alloc (.cells #[.int .i64 x0, .int .i64 x1, .int .i64 x2] 24)
  generalize (W.alloc (.cells #[.int .i64 x0, .int .i64 x1, .int .i64 x2] 24)) = w0 at *
  rw [← hb4] at hb0 ⊢
  have HF0 := Lib.hid hb0
  have HT0 := Lib.hid ht0
  clear hb0 ht0 hb4
  go_upto_region 2 with (go_at_call 5; refine (shown_walk _ (HR.out.turn HT0.out)).mono ?_; rintro e w1 ⟨rfl, ht1⟩)
  have HT1 := Lib.hid (HT0.out.trans ht1 (fun _ _ e => e))
  have HF1 := Lib.hid (HF0.out.turn ht1 (fun e => e))
  clear ht1
  refine wp_region_lit ?_
  refine wpList_run (v := _) rfl (exec_make0 rfl) ?_
  simp only [Act.put, List.setIfInBounds_toArray, List.set_cons_zero, List.set_cons_succ]
  refine wpList_run (v := .slice a len cap) rfl (exec_move rfl rfl) ?_
  simp only [Act.put, List.setIfInBounds_toArray, List.set_cons_zero, List.set_cons_succ]
  have hown0 := Own.empty w1 w1.heap.size 5 (Nat.le_refl _)
  have hb1 : Bs (w1.alloc (.cells #[] 5)) a len bs := bs_turn HB.out (HT1.out.alloc _)
  have hb2t : Below w1.heap.size w1 (w1.alloc (.cells #[] 5)) := (Below.refl _ w1).alloc (Nat.le_refl _) _
  have hle3 : w1.heap.size ≤ (w1.alloc (.cells #[] 5)).heap.size := by simp
  generalize (w1.alloc (.cells #[] 5)) = w2 at *
  refine wpList_append_bytes w2 rfl _ _ _ rfl w1.heap.size 5 byteInfo Tryz.underlying22 _ [] rfl hown0 a len cap bs rfl hb1 HZZ.out (by have := HN.out; simp; omega) hle3 ?_
  intro v3 w3 ho3 hb3
  rw [List.nil_append] at ho3
  obtain ⟨A6, n6, c6, rfl, hbs6, hnc6, _⟩ := ho3.form
  simp only [Act.put, List.setIfInBounds_toArray, List.set_cons_zero, List.set_cons_succ]
  have hbel := hb2t.trans hb3
  have ht13 := Turn.of_below hbel (Nat.le_refl _)
  have HT3 := Lib.hid (HT1.out.trans ht13 fun _ _ e => e)
  have HF3 := Lib.hid (HF1.out.turn ht13 fun e => e)
  have H6 := Lib.hid hbs6
  have HC6 := Lib.hid hnc6
  clear ho3 hb3 hown0 hb1 hb2t hle3 hbs6 hnc6 hbel ht13
  go_upto_region 3 with fail
  refine wp_region_lit ?_
  refine wpList_run (v := .slice A6 n6 c6) rfl (exec_move rfl rfl) ?_
  simp only [Act.put, List.setIfInBounds_toArray, List.set_cons_zero, List.set_cons_succ]
  refine wpList_run (v := .agg #[.int .i64 x0, .int .i64 x1, .int .i64 x2]) (w' := w3) rfl (exec_load rfl rfl (load_blkForm HF3.out)) ?_
  simp only [Act.put, List.setIfInBounds_toArray, List.set_cons_zero, List.set_cons_succ]
  go_wp2_with fail
  refine (HP.out w3 A6 n6 c6 (HR.out.turn HT3.out) H6.out HC6.out (by have h1 := H6.out.1; have h2 := HB.out.1; have := HN.out; omega)).mono ?_
  rintro e w5 ⟨A8, n8, c8, rfl, ho8, ht5⟩
  have HT5 := Lib.hid (HT3.out.trans ht5 fun _ _ e => e)
  have HF5 := Lib.hid (HF3.out.turn ht5 fun e => e)
  have HT35 := Lib.hid ht5
  have HO8 := Lib.hid ho8
  clear ho8 ht5
  go_upto_region 4 with fail
  refine wp_region_lit ?_
  refine wpList_run (v := .slice a len cap) rfl (exec_move rfl rfl) ?_
  simp only [Act.put, List.setIfInBounds_toArray, List.set_cons_zero, List.set_cons_succ]
  refine wpList_run (v := .agg #[.int .i64 x0, .int .i64 x1, .int .i64 x2]) (w' := w5) rfl (exec_load rfl rfl (load_blkForm HF5.out)) ?_
  simp only [Act.put, List.setIfInBounds_toArray, List.set_cons_zero, List.set_cons_succ]
  go_wp2_with fail
  refine (HQ.out w5 a len cap (bs_turn HB.out HT5.out) HLE.out HZZ.out (by have := HN.out; omega)).mono ?_
  rintro e w6 ⟨A11, n11, c11, rfl, ho11, ht6⟩
  have HT6 := Lib.hid (HT5.out.trans ht6 fun _ _ e => e)
  have HB36 := Lib.hid (HT35.out.trans ht6 fun _ _ e => e)
  have HO8 := Lib.hid (Own.below HO8.out (ht6.below (Nat.le_refl _) fun _ _ e => e) (Nat.le_refl _))
  have H11 := Lib.hid (own_bs ho11).1
  have H8 := Lib.hid (own_bs HO8.out).1
  have HX := Lib.hid (Held1.of HO8.out)
  clear ho11 ht6
  go_upto_region 5 with fail
  refine wp_region_lit ?_
  refine wpList_run (v := .bool true) rfl (exec_move rfl rfl) ?_
  simp only [Act.put, List.setIfInBounds_toArray, List.set_cons_zero, List.set_cons_succ]
  refine wpList_run (v := .bool false) (w' := w6) rfl (by go_simp) ?_
  simp only [Act.put, List.setIfInBounds_toArray, List.set_cons_zero, List.set_cons_succ]
  refine wpList_run (v := .bool false) rfl (exec_move rfl rfl) ?_
  simp only [Act.put, List.setIfInBounds_toArray, List.set_cons_zero, List.set_cons_succ]
  refine wpList_run (v := strV tx) rfl (exec_move rfl rfl) ?_
  simp only [Act.put, List.setIfInBounds_toArray, List.set_cons_zero, List.set_cons_succ]
  refine wpList_run (v := strV tx) rfl (exec_move rfl rfl) ?_
  simp only [Act.put, List.setIfInBounds_toArray, List.set_cons_zero, List.set_cons_succ]
  refine wpList_run (v := .bool false) (w' := w6) rfl (exec_nself rfl rfl rfl) ?_
  simp only [Act.put, List.setIfInBounds_toArray, List.set_cons_zero, List.set_cons_succ]
  refine wpList_run (v := .bool false) (w' := w6) rfl (exec_pickF rfl rfl rfl) ?_
  simp only [Act.put, List.setIfInBounds_toArray, List.set_cons_zero, List.set_cons_succ]
  refine wpList_run (v := .bool false) rfl (exec_move rfl rfl) ?_
  simp only [Act.put, List.setIfInBounds_toArray, List.set_cons_zero, List.set_cons_succ]
  refine wpList_run (v := .slice A8 n8 c8) rfl (exec_move rfl rfl) ?_
  simp only [Act.put, List.setIfInBounds_toArray, List.set_cons_zero, List.set_cons_succ]
  refine wpList_run (v := strV rest) (w' := w6) rfl (exec_strBs rfl rfl H8.out) ?_
  simp only [Act.put, List.setIfInBounds_toArray, List.set_cons_zero, List.set_cons_succ]
  refine wpList_run (v := .slice A11 n11 c11) rfl (exec_move rfl rfl) ?_
  simp only [Act.put, List.setIfInBounds_toArray, List.set_cons_zero, List.set_cons_succ]
  refine wpList_run (v := strV rest) (w' := w6) rfl (exec_strBs rfl rfl H11.out) ?_
  simp only [Act.put, List.setIfInBounds_toArray, List.set_cons_zero, List.set_cons_succ]
  refine wpList_run (v := .bool false) (w' := w6) rfl (exec_nself rfl rfl rfl) ?_
  simp only [Act.put, List.setIfInBounds_toArray, List.set_cons_zero, List.set_cons_succ]
  refine wpList_run (v := .bool false) (w' := w6) rfl (exec_pickF rfl rfl rfl) ?_
  simp only [Act.put, List.setIfInBounds_toArray, List.set_cons_zero, List.set_cons_succ]
  refine wpList_run (v := .bool false) rfl (exec_move rfl rfl) ?_
  simp only [Act.put, List.setIfInBounds_toArray, List.set_cons_zero, List.set_cons_succ]
  refine wpList_run (v := .int .i64 ke) rfl (exec_move rfl rfl) ?_
  simp only [Act.put, List.setIfInBounds_toArray, List.set_cons_zero, List.set_cons_succ]
  refine wpList_run (v := .int .i64 ke) rfl (exec_move rfl rfl) ?_
  simp only [Act.put, List.setIfInBounds_toArray, List.set_cons_zero, List.set_cons_succ]
  refine wpList_run (v := .bool false) (w' := w6) rfl (by go_simp) ?_
  simp only [Act.put, List.setIfInBounds_toArray, List.set_cons_zero, List.set_cons_succ]
  refine wpList_run (v := .bool false) (w' := w6) rfl (exec_pickF rfl rfl rfl) ?_
  simp only [Act.put, List.setIfInBounds_toArray, List.set_cons_zero, List.set_cons_succ]
  have HNX := Lib.hid (H8.out.2.1)
  clear HO8 HP HQ HF0 HF1 HF3 HF5
  go_wp2_with fail
  go_loopg [13] n8 (fun gk i wr => ∃ k : Nat, k + gk = n8 ∧ i = .int .i64 (k : Int) ∧ Held1 wr w3.heap.size (.slice A8 n8 c8) n8 ∧ Below w3.heap.size w6 wr)
  case atStart => exact ⟨0, by omega, rfl, HX.out, Below.refl _ _⟩
  case round =>
    obtain ⟨k, hkl, rfl, hx, hbe⟩ := hrel
    have HKL := Lib.hid hkl
    have HXr := Lib.hid hx
    have HBE := Lib.hid hbe
    clear hkl hx hbe
    have z0 : (0 : Int) ≤ (k : Int) := by omega
    by_cases hlt : k < n8
    · have y1 : (k : Int) < (n8 : Int) := by omega
      have y3 : (n8 : Int) ≤ 9223372036854775807 := by have := HNX.out; unfold maxLen at this; omega
      obtain ⟨g, rfl, hg, hnc, hcell⟩ := HXr.out.some (by omega)
      obtain ⟨⟨v, hv⟩, hf, hset⟩ := hcell k hlt
      have HSET := Lib.hid hset
      have HG := Lib.hid hg
      have HLT := Lib.hid hlt
      clear hset hg hnc hcell
      go_upto_region 10 with fail
      refine wp_region_lit ?_
      refine wpList_run (v := .slice (some ⟨g, 0, none⟩) n8 c8) rfl (exec_move rfl rfl) ?_
      simp only [Act.put, List.setIfInBounds_toArray, List.set_cons_zero, List.set_cons_succ]
      refine wpList_run (v := .int .i64 (k : Int)) rfl (exec_move rfl rfl) ?_
      simp only [Act.put, List.setIfInBounds_toArray, List.set_cons_zero, List.set_cons_succ]
      refine wpList_run (v := .pointer (some ⟨g, k, none⟩)) (w' := wr) rfl (gx_iaddr (off := 0) (n := n8) (c := c8) (i := k) (sz := 1) (k := .i64) rfl rfl rfl Tryz.underlying22 size_u8 hlt (by omega)) ?_
      simp only [Act.put, List.setIfInBounds_toArray, List.set_cons_zero, List.set_cons_succ]
      clear hlt
      go_wp2_with fail
      go_roundg (gk - 1)
      case measure => have := HKL.out; have := HLT.out; omega
      case rel => exact ⟨k + 1, by have := HKL.out; have := HLT.out; omega, by go_num, HSET.out _, HBE.out.setCell (p := ⟨g, k, none⟩) HG.out _⟩
    · have y1 : ¬ ((k : Int) < (n8 : Int)) := by omega
      have y2 : decide (k < n8) = false := decide_eq_false hlt
      have hb3w : Below w3.heap.size w3 wr := (HB36.out.below (Nat.le_refl _) fun _ _ e => e).trans HBE.out
      have HFIN := Lib.hid ((HT3.out.below (Nat.le_refl _) fun _ _ e => e).trans (hb3w.mono HT3.out.size))
      have H6w := Lib.hid (bs_below H6.out hb3w)
      have HBw := Lib.hid (bs_below (bs_turn HB.out HT3.out) hb3w)
      clear hlt hb3w
      go_upto_region 11 with fail
      clear y1 y2
      refine wp_region_lit ?_
      refine wpList_run (v := .slice A6 n6 c6) rfl (exec_move rfl rfl) ?_
      simp only [Act.put, List.setIfInBounds_toArray, List.set_cons_zero, List.set_cons_succ]
      refine wpList_run (v := strV bs) (w' := wr) rfl (exec_strBs rfl rfl H6w.out) ?_
      simp only [Act.put, List.setIfInBounds_toArray, List.set_cons_zero, List.set_cons_succ]
      refine wpList_run (v := .slice a len cap) rfl (exec_move rfl rfl) ?_
      simp only [Act.put, List.setIfInBounds_toArray, List.set_cons_zero, List.set_cons_succ]
      refine wpList_run (v := strV bs) (w' := wr) rfl (exec_strBs rfl rfl HBw.out) ?_
      simp only [Act.put, List.setIfInBounds_toArray, List.set_cons_zero, List.set_cons_succ]
      refine wpList_run (v := .bool true) (w' := wr) rfl (exec_sself rfl rfl rfl) ?_
      simp only [Act.put, List.setIfInBounds_toArray, List.set_cons_zero, List.set_cons_succ]
      go_wp2_with fail
      go_ret
      exact ⟨rfl, HFIN.out⟩
end Go.Proofs.YtgdlidjjogoiaaaGreatDoor
