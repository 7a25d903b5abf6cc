/-
  field's Put onto nothing, and what it says of texts. Conditions: the rows read as the program's text lays them.
-/
import Derived.Test.YtgdlidjjogoiaaaGreatDoorFdW
namespace Go.Proofs.YtgdlidjjogoiaaaGreatDoor
open Go.RowKit
open Fdd
set_option linter.unusedVariables false
theorem check_cases {f : Fm} {t : List UInt8} (h : f.check t = 0) : f.may = true ∧ f.right t = true := by
  unfold Fm.check at h
  split at h
  · rename_i hm
    split at h
    · rename_i hr
      exact ⟨hm, hr⟩
    · cases h
  · cases h
theorem put_ok {f : Fm} {t : List UInt8} {W : World} (h : f.check t = 0) (hr : RowsT W) :
    Calls Tryz.prog 6 #[.slice none 0 0, fmV f, strV t] W fun e w' => ∃ A n c, e = .returned (.tuple #[.slice A n c, .int .i64 0]) ∧ Bs w' A n (f.put t) ∧ n ≤ c ∧ Turn nowhere W w' := by
  obtain ⟨hm, hrt⟩ := check_cases h
  obtain ⟨k, s, c, rfl, h1, h2, h3⟩ := fm_exp hm
  refine (put_main (cap := 0) h1 h2 h3 hrt hr (bs_nil W none) (by decide)).mono ?_
  rintro e w' ⟨A, n, c', rfl, ho, ht⟩
  rw [List.nil_append] at ho
  exact ⟨A, n, c', rfl, (own_bs ho).1, (own_bs ho).2.1, ht⟩
theorem fm_inj {f : Fm} {a b : List UInt8} (ha : f.check a = 0) (hb : f.check b = 0) : f.put a = f.put b ↔ a = b := by
  constructor
  · intro h
    obtain ⟨hm, hra⟩ := check_cases ha
    obtain ⟨_, hrb⟩ := check_cases hb
    obtain ⟨k, s, c, rfl, h1, h2, h3⟩ := fm_exp hm
    have e1 := fm_back (rest := []) h1 h2 h3 hra
    have e2 := fm_back (rest := []) h1 h2 h3 hrb
    rw [h, e2] at e1
    injection e1 with e1
    injection e1 with e1 _
    exact e1.symm
  · rintro rfl
    rfl
theorem fm_same {f : Fm} {a b : List UInt8} (ha : f.check a = 0) (hb : f.check b = 0) (h : f.kind ≠ 2 ∨ a.length = b.length) : (f.put a).length = (f.put b).length := by
  obtain ⟨hm, hra⟩ := check_cases ha
  obtain ⟨_, hrb⟩ := check_cases hb
  obtain ⟨k, s, c, rfl, h1, h2, h3⟩ := fm_exp hm
  rw [fm_len h2 h3 hra, fm_len h2 h3 hrb]
  by_cases hk : k = 2
  · rw [if_pos hk, if_pos hk]
    rcases h with h | h
    · exact absurd (show (k : Int) = 2 by omega) h
    · rw [h]
  · rw [if_neg hk, if_neg hk]
theorem put_small {f : Fm} {a : List UInt8} (ha : f.check a = 0) : (f.put a).length ≤ 1000 := by
  obtain ⟨hm, hra⟩ := check_cases ha
  obtain ⟨k, s, c, rfl, h1, h2, h3⟩ := fm_exp hm
  rw [fm_len h2 h3 hra]
  have key : ∀ (kk : Int) (n : Nat), n ≤ 64 → sizeAll (ptsOf kk (c : Int) n) ≤ 400 := by
    intro kk n hn
    have hb : ∀ p : Pt, p.size ≤ p.n + 1 := by
      intro p
      unfold Pt.size
      split <;> omega
    unfold ptsOf
    split
    · have := hb ⟨n, sgn, (rws (c : Int).toNat).s⟩
      simp only [sizeAll]
      dsimp only at this
      omega
    · split
      · have := hb ⟨2 * n, hexs, (rws (c : Int).toNat).h⟩
        simp only [sizeAll]
        dsimp only at this
        omega
      · split
        · have h4 := hb ⟨1, mk, (rws (c : Int).toNat).m⟩
          have h5 := hb ⟨n, dec, (rws (c : Int).toNat).d⟩
          simp only [sizeAll]
          dsimp only at h4 h5
          omega
        · have := hb ⟨n, dec, (rws (c : Int).toNat).d⟩
          simp only [sizeAll]
          dsimp only at this
          omega
  by_cases hk : k = 2
  · rw [if_pos hk]
    subst hk
    have hl := (ll_right hra).1
    have e1 := key 1 2 (by omega)
    have e2 := key 2 a.length (by omega)
    omega
  · rw [if_neg hk]
    have := key (k : Int) s (by omega)
    omega
end Go.Proofs.YtgdlidjjogoiaaaGreatDoor
