/-
  groatlaw03's PlantLast: its plain data
-/
import Derived.Test.YteedjfgandgbkaaPlSh
namespace Go.Proofs.Yteedjfgandgbkaa
open Go.RowKit Go.Maps
set_option linter.unusedVariables false
theorem kind_walk (n : Int) (w : World) (hn : -9223372036854775808 ≤ n ∧ n ≤ 9223372036854775807) : Calls Try.prog 10 #[.int .i64 n] w fun e w' => ∃ m : Nat, e = .returned (.int .i64 (m : Int)) ∧ m < 10 ∧ w = w' := by
  by_cases h0 : n < 0
  · have h1 : ¬ (n + 1 > 9223372036854775807) := by omega
    go_enter Try.func10, Try.ntmps10
    go_wp2
    go_ret
    have h2 : 0 ≤ Int.tmod (-(n + 1)) 10 := Int.tmod_nonneg _ (by omega)
    have h3 : Int.tmod (-(n + 1)) 10 < 10 := Int.tmod_lt_of_pos _ (by omega)
    exact ⟨(Int.tmod (-(n + 1)) 10).toNat, ret_int (by rw [Int.toNat_of_nonneg h2, Int.neg_tmod]), by omega, rfl⟩
  · go_enter Try.func10, Try.ntmps10
    go_wp2
    go_ret
    exact ⟨(n % 10).toNat, ret_int (by omega), by omega, rfl⟩
/-- the plant, and what was written last -/
structure Inv (s : AP) (hs : List UInt8) : Prop where
  on : s.on = true
  fuse : s.fuse = -1
  len : s.ds.length = 2
  hl : hs.length = 16
  at_ : ∀ i, i < 2 → ∃ d, s.ds[i]? = some d ∧ d.n = 8 ∧ ∀ k, k < 8 → d.read (k : Nat) = fullS (hs.getD (8 * i + k) 0)
theorem Inv.new : Inv (AP.new [8, 8]) (List.replicate 16 0) := by
  refine ⟨rfl, rfl, rfl, rfl, fun i hi => ⟨⟨8, fun _ => none, []⟩, ?_, rfl, fun k hk => ?_⟩⟩
  · rcases i with _ | _ | i
    · rfl
    · rfl
    · omega
  · have e : (List.replicate 16 (0 : UInt8)).getD (8 * i + k) 0 = 0 := by
      rw [List.getD_eq_getElem?_getD, List.getElem?_replicate]
      split <;> rfl
    rw [e]
    show zeroSec = fullS 0
    decide +kernel
theorem Inv.put {s : AP} {hs : List UInt8} (h : Inv s hs) {i k : Nat} {d : AD} (hi : i < 2) (hk : k < 8) (hd : s.ds[i]? = some d) (c : UInt8) : Inv (s.put i d (k : Int) (fullS c)) (hs.set (8 * i + k) c) := by
  have hl := h.hl
  refine ⟨h.on, ?_, by simp [AP.put, h.len], by simp [hl], fun j hj => ?_⟩
  · show burnt s.fuse = -1
    rw [h.fuse]
    rfl
  · obtain ⟨d', hd', hn, hr⟩ := h.at_ j hj
    by_cases e : j = i
    · subst e
      rw [hd] at hd'
      cases hd'
      refine ⟨{ d with ws := d.ws ++ [(s.steps + 1, (k : Int), fullS c)] }, by simp [AP.put, h.len, hj], hn, fun m hm => ?_⟩
      show reads (lastW (d.ws ++ [(s.steps + 1, (k : Int), fullS c)])) d.fl (m : Int) = _
      rw [lastW_snoc]
      by_cases e2 : m = k
      · subst e2
        rw [List.getD_eq_getElem?_getD, List.getElem?_set_self (by omega)]
        simp [reads, upd]
      · rw [List.getD_eq_getElem?_getD, List.getElem?_set_ne (by omega), ← List.getD_eq_getElem?_getD, ← hr m hm]
        have e3 : ¬ ((m : Int) = (k : Int)) := by omega
        simp [AD.read, reads, upd, e3]
    · refine ⟨d', by simp [AP.put, List.getElem?_set_ne (Ne.symm e), hd'], hn, fun m hm => ?_⟩
      rw [hr m hm, List.getD_eq_getElem?_getD, List.getD_eq_getElem?_getD, List.getElem?_set_ne (by omega)]
theorem Inv.flushed {s : AP} {hs : List UInt8} (h : Inv s hs) {i : Nat} {d : AD} (hi : i < 2) (hd : s.ds[i]? = some d) : Inv (s.flushed i d) hs := by
  refine ⟨h.on, ?_, by simp [AP.flushed, h.len], h.hl, fun j hj => ?_⟩
  · show burnt s.fuse = -1
    rw [h.fuse]
    rfl
  · obtain ⟨d', hd', hn, hr⟩ := h.at_ j hj
    by_cases e : j = i
    · subst e
      rw [hd] at hd'
      cases hd'
      refine ⟨{ d with fl := over (lastW d.ws) d.fl, ws := [] }, by simp [AP.flushed, h.len, hj], hn, fun m hm => ?_⟩
      rw [← hr m hm]
      show reads (lastW []) (over (lastW d.ws) d.fl) (m : Int) = reads (lastW d.ws) d.fl (m : Int)
      simp only [reads, over, show lastW [] = (fun _ => none) from rfl]
      cases lastW d.ws (m : Int) <;> rfl
    · exact ⟨d', by simp [AP.flushed, List.getElem?_set_ne (Ne.symm e), hd'], hn, hr⟩
end Go.Proofs.Yteedjfgandgbkaa
