/-
  Ledgers: fits, exactly and fitted: the walks. No conditions.
-/
import Derived.Test.YthoefjaapjaeeaaLgC
import Derived.Deep.LoopGhost
import Derived.WalkSmall
namespace Go.Proofs.Ythoefjaapjaeeaa
open Go.RowKit
open Lg (Ent)
set_option linter.unusedVariables false
set_option linter.unusedSimpArgs false
theorem fits_walk {z : Int} (w : World) (hz : Lg.Small z) : Calls Try.prog 37 #[.agg (exA z)] w fun e w' => e = .returned (.bool (decide (Mn.in64 z))) ∧ Turn nowhere w w' := by
  have HZ := Lib.hid hz
  have HI := Lib.hid (show Mn.in64 (Lg.wr (Lg.exL z)) from by unfold Mn.in64 Lg.wr; omega)
  clear hz
  go_enter Try.func37, Try.ntmps37
  go_upto_region 0 with fail
  refine wp_region_lit ?_
  refine wpList_run (v := .pointer (some ⟨(w).heap.size, 0, none⟩)) (w' := (w).alloc (.cells (exA z) 63)) (wanted_none rfl) (gx_box rfl rfl (box_ex z _)) ?_
  simp only [Act.put, List.setIfInBounds_toArray, List.set_cons_zero, List.set_cons_succ]
  refine wpList_run (v := .bool false) (wanted_none rfl) (gx_assign rfl rfl) ?_
  simp only [Act.put, List.setIfInBounds_toArray, List.set_cons_zero, List.set_cons_succ]
  have hb_b := Blk.new (w) 63 (exA z)
  have ht_ := (Turn.refl nowhere (w)).alloc (.cells (exA z) 63)
  obtain ⟨n0_, hn0_⟩ : ∃ n, n = (w).heap.size := ⟨_, rfl⟩
  have hz_b : (w).heap.size = n0_ + 0 := by rw [hn0_]; simp
  obtain ⟨b, hg_⟩ : ∃ g, g = (w).heap.size := ⟨_, rfl⟩
  rw [← hg_] at hb_b hz_b ⊢
  clear hg_
  generalize (w).alloc (.cells (exA z) 63) = w1 at *
  have HT1 := Lib.hid ht_
  clear ht_
  have HBb := Lib.hid hb_b
  have HLb := Lib.hid (show (w).heap.size ≤ b from by omega)
  clear hb_b
  clear hn0_ hz_b
  clear n0_
  go_upto_region 1 with fail
  refine wp_region_alw (fun W => Blk W b 63 (exA z)) (by kernel_rfl) ?_
  have hS0 : (fun W => Blk W b 63 (exA z)) w1.drew := HBb.out.drew
  have HD := Lib.hid ((Turn.refl nowhere w1).drew)
  generalize w1.drew = wd at *
  refine alw_take (i := 0) (v := .pointer (some ⟨b, 0, none⟩)) rfl (by kernel_rfl) (by kernel_rfl) (fun _ _ _ h => h) (.inl ⟨by rfl, fun W hW => exec_field (off := 0) (d := 0) rfl rfl (by kernel_rfl)⟩) hS0 ?_
  simp only [Act.put, List.setIfInBounds_toArray, List.set_cons_zero, List.set_cons_succ]
  refine alw_take (i := 1) (v := .int .i64 (Lg.exH z)) rfl (by kernel_rfl) (by kernel_rfl) (fun _ _ _ h => h) (.inl ⟨by rfl, fun W hW => exec_load1 rfl rfl (by kernel_rfl) (hW.cell 0)⟩) hS0 ?_
  simp only [Act.put, List.setIfInBounds_toArray, List.set_cons_zero, List.set_cons_succ]
  refine alw_take (i := 2) (v := .pointer (some ⟨b, 1, none⟩)) rfl (by kernel_rfl) (by kernel_rfl) (fun _ _ _ h => h) (.inl ⟨by rfl, fun W hW => exec_field (off := 0) (d := 1) rfl rfl (by kernel_rfl)⟩) hS0 ?_
  simp only [Act.put, List.setIfInBounds_toArray, List.set_cons_zero, List.set_cons_succ]
  refine alw_take (i := 3) (v := .int .u64 (Lg.exL z)) rfl (by kernel_rfl) (by kernel_rfl) (fun _ _ _ h => h) (.inl ⟨by rfl, fun W hW => exec_load1 rfl rfl (by kernel_rfl) (hW.cell 1)⟩) hS0 ?_
  simp only [Act.put, List.setIfInBounds_toArray, List.set_cons_zero, List.set_cons_succ]
  refine alw_take (i := 4) (v := .int .i64 (Lg.wr (Lg.exL z))) rfl (by kernel_rfl) (by kernel_rfl) (fun _ _ _ h => h) (.inl ⟨by rfl, fun W hW => ix_cvti rfl rfl⟩) hS0 ?_
  simp only [Act.put, List.setIfInBounds_toArray, List.set_cons_zero, List.set_cons_succ]
  refine alw_step (i := 5) (by kernel_rfl) rfl rfl ?_
  intro K1 HK1
  go_wp2_with fail
  refine (sign_walk _ HI.out).mono ?_
  rintro e wx ⟨rfl, rfl⟩

  refine HK1.out _ _ ⟨hS0, ?_⟩
  clear HK1
  try simp only [Act.put, List.setIfInBounds_toArray, List.set_cons_zero, List.set_cons_succ]
  refine alw_take (i := 6) (v := .bool (decide (Mn.in64 z))) rfl (by kernel_rfl) (by kernel_rfl) (fun _ _ _ h => h) (.inl ⟨by rfl, fun W hW => ix_eql rfl rfl rfl (decide_eq_decide.2 (Lg.ex_fits HZ.out))⟩) hS0 ?_
  simp only [Act.put, List.setIfInBounds_toArray, List.set_cons_zero, List.set_cons_succ]
  refine alw_take (i := 7) (v := .bool (decide (Mn.in64 z))) rfl (by kernel_rfl) (by kernel_rfl) (fun _ _ _ h => h) (.inl ⟨by rfl, fun W hW => gx_assign rfl rfl⟩) hS0 ?_
  simp only [Act.put, List.setIfInBounds_toArray, List.set_cons_zero, List.set_cons_succ]
  refine alw_done rfl ?_
  refine NoPanic.normal ?_
  clear hS0
  try simp only [Act.put, List.setIfInBounds_toArray, List.set_cons_zero, List.set_cons_succ]
  go_wp2_with fail
  go_ret
  exact ⟨rfl, HT1.out.trans HD.out fun _ _ e => e⟩
/-- seven numbers; seven sums -/
def balA (b : Nat → Int) : Array Value := #[.int .i64 (b 0), .int .i64 (b 1), .int .i64 (b 2), .int .i64 (b 3), .int .i64 (b 4), .int .i64 (b 5), .int .i64 (b 6)]
theorem balA_at (b : Nat → Int) (j : Nat) : (balA b)[j]? = if j < 7 then some (.int .i64 (b j)) else none := by
  match j with
  | 0 | 1 | 2 | 3 | 4 | 5 | 6 => rfl
  | j + 7 => rw [if_neg (by omega), Array.getElem?_eq_none (by simp [balA])]
theorem balA_one (b : Nat → Int) : ∀ v ∈ (balA b).toList, v.oneCell' = true := fun v hv => by
  obtain ⟨i, hi⟩ := List.mem_iff_getElem?.1 hv
  rw [Array.getElem?_toList, balA_at] at hi
  split at hi
  · obtain rfl := Option.some.inj hi; rfl
  · cases hi
theorem balA_of {cs : Array Value} {b : Nat → Int} (hs : cs.size = 7) (h : ∀ j, j < 7 → cs[j]? = some (.int .i64 (b j))) : cs = balA b := by
  apply Array.ext_getElem?
  intro j
  rw [balA_at]
  split
  · exact h j (by assumption)
  · exact Array.getElem?_eq_none (by omega)
def exs (f : Nat → Int) : Array Value := ((List.range 14).map fun j => exC (f (j / 2)) (j % 2)).toArray
theorem exs_size (f : Nat → Int) : (exs f).size = 14 := by simp [exs]
theorem exs_at (f : Nat → Int) (j : Nat) : (exs f)[j]? = if j < 14 then some (exC (f (j / 2)) (j % 2)) else none := by
  unfold exs
  simp only [List.getElem?_toArray, List.getElem?_map]
  by_cases h : j < 14
  · rw [if_pos h, List.getElem?_range h]; rfl
  · rw [if_neg h, List.getElem?_eq_none (by simp; omega)]; rfl
theorem exs_one (f : Nat → Int) : ∀ v ∈ (exs f).toList, v.oneCell' = true := fun v hv => by
  obtain ⟨i, hi⟩ := List.mem_iff_getElem?.1 hv
  rw [Array.getElem?_toList, exs_at] at hi
  split at hi
  · obtain rfl := Option.some.inj hi
    unfold exC
    split <;> rfl
  · cases hi
theorem exA_at (z : Int) (j : Nat) (hj : j < 2) : (exA z)[j]? = some (exC z j) := by
  match j with
  | 0 | 1 => rfl
theorem exs_set {f : Nat → Int} {a : Nat} {z : Int} {cs : Array Value} (ha : a < 7) (hs : cs.size = (exs f).size) (h : ∀ j, cs[j]? = if 0 + a * 2 ≤ j ∧ j < 0 + a * 2 + (exA z).size then (exA z)[j - (0 + a * 2)]? else (exs f)[j]?) : cs = exs fun k => if k = a then z else f k := by
  apply Array.ext_getElem?
  intro j
  rw [h, exs_at (fun k => if k = a then z else f k)]
  have h2 : (exA z).size = 2 := rfl
  by_cases hj : 0 + a * 2 ≤ j ∧ j < 0 + a * 2 + (exA z).size
  · rw [if_pos hj, if_pos (by omega), exA_at _ _ (by omega), if_pos (by omega)]
    congr 2
    omega
  · rw [if_neg hj, exs_at]
    by_cases h14 : j < 14
    · rw [if_pos h14, if_pos h14, if_neg (by omega)]
    · rw [if_neg h14, if_neg h14]
theorem exs_part {f : Nat → Int} {i : Nat} (hi : i < 7) : (exs f).extract (i * 2) (i * 2 + 2) = exA (f i) := by
  apply Array.ext_getElem?
  intro j
  rw [Array.getElem?_extract, exs_size]
  by_cases hj : j < 2
  · rw [if_pos (by omega), exs_at, if_pos (by omega), exA_at _ _ hj]
    congr 2
    · congr 1; omega
    · omega
  · rw [if_neg (by omega), Array.getElem?_eq_none (by simp [exA]; omega)]
theorem size_exs : (Try.prog.info? 64).map (·.size) = some 14 := by kernel_rfl
theorem size_bal : (Try.prog.info? 58).map (·.size) = some 7 := by kernel_rfl
theorem zero_exs (w : World) : (zeroValue 64).run Try.prog w = .ok (.agg (exs fun _ => 0)) w := by kernel_rfl
theorem zero_bal (w : World) : (zeroValue 58).run Try.prog w = .ok (.agg (balA fun _ => 0)) w := by kernel_rfl
end Go.Proofs.Ythoefjaapjaeeaa
