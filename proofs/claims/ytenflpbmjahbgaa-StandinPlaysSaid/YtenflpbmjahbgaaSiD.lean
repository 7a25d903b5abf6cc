/-
  standin's New and Ask: the walks. No conditions.
-/
import Derived.Test.YtenflpbmjahbgaaSiB
import Derived.Shelf.SlMaps.Clone
import Derived.WalkSpells
import Derived.Lib.SliceRun
namespace Go.Proofs.Ytenflpbmjahbgaa
open Go.RowKit Go.Maps
open Si (Card Lims)
set_option linter.unusedVariables false
set_option linter.unusedSimpArgs false
set_option maxRecDepth 20000
namespace Si
theorem newE_len {l : Lims} (h : l.length < 1 ∨ 6 < l.length) : newE l = 130 := if_pos h
theorem newE_bad {l : Lims} (h : 1 ≤ l.length ∧ l.length ≤ 6) (hb : ¬ okL l) : newE l = 150 := by unfold newE; rw [if_neg (by omega), if_neg hb]
theorem newE_ok {l : Lims} (h : 1 ≤ l.length ∧ l.length ≤ 6) (hb : okL l) : newE l = 0 := by unfold newE; rw [if_neg (by omega), if_pos hb]
/-- the first i may be -/
def okT (l : Lims) (i : Nat) : Prop := okL (l.take i)
theorem okT_zero (l : Lims) : okT l 0 := fun s h => by cases h
theorem okT_step {l : Lims} {i : Nat} {s : Int × Int} (h : okT l i) (hs : l[i]? = some s) (h1 : okA s.1) (h2 : okA s.2) : okT l (i + 1) := fun x hx => by
  rw [List.take_add_one, hs] at hx
  rcases List.mem_append.1 hx with hx | hx
  · exact h x hx
  · obtain rfl : x = s := by simpa using hx
    exact ⟨h1, h2⟩
theorem okT_end {l : Lims} {n : Nat} (h : okT l n) (hn : l.length = n) : okL l := by
  unfold okT at h
  rwa [List.take_of_length_le (by omega)] at h
end Si
theorem stA_one (s : Int × Int) : ∀ v ∈ (#[.int .i64 s.1, .int .i64 s.2] : Array Value).toList, v.oneCell' = true := fun v hv => by
  simp only [List.mem_cons, List.not_mem_nil, or_false] at hv
  rcases hv with rfl | rfl <;> rfl
theorem isA_yes {x : Int} (w : World) (h : Si.okA x) : Calls Try.prog 18 #[.int .i64 x] w fun e w' => e = .returned (.bool true) ∧ w' = w := by
  have := isAmount_walk x w
  rw [show Si.isA x = true from decide_eq_true h] at this
  exact this
theorem isA_no {x : Int} (w : World) (h : ¬ Si.okA x) : Calls Try.prog 18 #[.int .i64 x] w fun e w' => e = .returned (.bool false) ∧ w' = w := by
  have := isAmount_walk x w
  rw [show Si.isA x = false from decide_eq_false h] at this
  exact this
theorem lim_rng {w : World} {A : Option Addr} {n : Nat} {l : Lims} (h : Rws w 2 A n (l.map limC)) {i : Nat} {s : Int × Int} (hs : l[i]? = some s) : ∃ b off, A = some ⟨b, off, none⟩ ∧ w.rangeAt b (off + i * 2) (limC s) := by
  obtain ⟨b, off, hA, hc⟩ := h.at_ (i := i) (r := limC s) (by rw [List.getElem?_map, hs]; rfl)
  exact ⟨b, off, hA, fun j v hv => hc j v hv⟩
theorem lim_len {w : World} {A : Option Addr} {n : Nat} {l : Lims} (h : Rws w 2 A n (l.map limC)) : l.length = n := by
  have := h.1
  rwa [List.length_map] at this
theorem Turn.newer {w0 w1 w2 : World} {p : Nat} (h : Turn nowhere w0 w1) (hp : w0.heap.size ≤ p) (g : Turn (only p) w1 w2) : Turn nowhere w0 w2 := h.trans g fun k hk e => by
  have e : k = p := e
  omega
/-- the limits' row lies at B or behind it -/
def LimB (w : World) (p : Value) (B : Nat) : Prop := ∃ a A n c m, p = .pointer (some ⟨a, 0, none⟩) ∧ Blk w a 49 #[.slice A n c, m] ∧ ∀ g, (Value.slice A n c).ownBlock = some g → B ≤ g
def NewQ (w : World) (l : Lims) (e : Ending) (w' : World) : Prop :=
  (Si.newE l ≠ 0 ∧ e = .returned (.tuple #[.pointer none, .int .i64 (Si.newE l)]) ∧ Turn nowhere w w') ∨ (Si.newE l = 0 ∧ ∃ p, e = .returned (.tuple #[p, .int .i64 0]) ∧ MadeD w l 0 (fun _ => 0) p w' ∧ LimB w' p w.heap.size)
set_option maxRecDepth 20000 in
set_option maxHeartbeats 4000000 in
theorem New_walk {w : World} {A : Option Addr} {n c : Nat} {l : Lims} (hr : Rws w 2 A n (l.map limC)) (hcc : A = none → c = 0) (hn : n ≤ 140737488355328) :
    Calls Try.prog 7 #[.slice A n c] w (NewQ w l) := by
  have HR := Lib.hid hr
  have HLN := Lib.hid (lim_len hr)
  have yn : (n : Int) ≤ 140737488355328 := by omega
  clear hr hcc hn
  go_enter Try.func7, Try.ntmps7
  go_upto_region 0 with fail
  refine wp_region_lit ?_
  refine wpList_run (v := .pointer none) (wanted_none rfl) (gx_assign rfl rfl) ?_
  simp only [Act.put, List.setIfInBounds_toArray, List.set_cons_zero, List.set_cons_succ]
  refine wpList_run (v := .int .i64 0) (wanted_none rfl) (gx_assign rfl rfl) ?_
  simp only [Act.put, List.setIfInBounds_toArray, List.set_cons_zero, List.set_cons_succ]
  by_cases h1 : n < 1
  · have HE := Lib.hid (show Si.newE l = 130 from Si.newE_len (.inl (by rw [HLN.out]; exact h1)))
    have y1 : (n : Int) < 1 := by omega
    clear h1
    go_upto_region 1 with fail
    first
    | (rename_i K9 hK9; have HKC := Lib.hid hK9; clear hK9)
    | (rename_i K9 hK9 K8; have HKC := Lib.hid hK9; clear hK9)
    refine wp_region_lit ?_
    refine wpList_run (v := .slice A n c) (wanted_none rfl) (exec_move rfl rfl) ?_
    simp only [Act.put, List.setIfInBounds_toArray, List.set_cons_zero, List.set_cons_succ]
    refine wpList_run (v := .int .i64 (n : Int)) (wanted_none rfl) (gx_len rfl rfl Try.underlying22) ?_
    simp only [Act.put, List.setIfInBounds_toArray, List.set_cons_zero, List.set_cons_succ]
    refine wpList_run (v := .bool true) (wanted_none rfl) (ix_lss rfl rfl rfl (decide_eq_true y1)) ?_
    simp only [Act.put, List.setIfInBounds_toArray, List.set_cons_zero, List.set_cons_succ]
    refine wpList_run (v := .bool true) (wanted_none rfl) (exec_move rfl rfl) ?_
    simp only [Act.put, List.setIfInBounds_toArray, List.set_cons_zero, List.set_cons_succ]
    go_wp2_with fail
    refine HKC.out _ _ ?_
    clear HKC
    go_upto_region 2 with fail
    refine wp_region_lit ?_
    refine wpList_run (v := .pointer none) (wanted_none rfl) (gx_assign rfl rfl) ?_
    simp only [Act.put, List.setIfInBounds_toArray, List.set_cons_zero, List.set_cons_succ]
    refine wpList_run (v := .int .i64 130) (wanted_none rfl) (gx_assign rfl rfl) ?_
    simp only [Act.put, List.setIfInBounds_toArray, List.set_cons_zero, List.set_cons_succ]
    go_wp2_with fail
    go_ret2
    exact .inl ⟨by rw [HE.out]; decide, by rw [HE.out]; rfl, Turn.refl _ _⟩
  · by_cases h6 : 6 < n
    · have HE := Lib.hid (show Si.newE l = 130 from Si.newE_len (.inr (by rw [HLN.out]; exact h6)))
      have y1 : 1 ≤ (n : Int) := by omega
      have y6 : 6 < (n : Int) := by omega
      clear h1 h6
      go_upto_region 1 with fail
      refine wp_region_lit ?_
      refine wpList_run (v := .slice A n c) (wanted_none rfl) (exec_move rfl rfl) ?_
      simp only [Act.put, List.setIfInBounds_toArray, List.set_cons_zero, List.set_cons_succ]
      refine wpList_run (v := .int .i64 (n : Int)) (wanted_none rfl) (gx_len rfl rfl Try.underlying22) ?_
      simp only [Act.put, List.setIfInBounds_toArray, List.set_cons_zero, List.set_cons_succ]
      refine wpList_run (v := .bool false) (wanted_none rfl) (ix_lss rfl rfl rfl (decide_eq_false (by omega))) ?_
      simp only [Act.put, List.setIfInBounds_toArray, List.set_cons_zero, List.set_cons_succ]
      refine wpList_run (v := .bool false) (wanted_none rfl) (exec_move rfl rfl) ?_
      simp only [Act.put, List.setIfInBounds_toArray, List.set_cons_zero, List.set_cons_succ]
      refine wpList_run (v := .slice A n c) rfl (exec_move rfl rfl) ?_
      simp only [Act.put, List.setIfInBounds_toArray, List.set_cons_zero, List.set_cons_succ]
      refine wpList_run (v := .int .i64 (n : Int)) rfl (gx_len rfl rfl Try.underlying22) ?_
      simp only [Act.put, List.setIfInBounds_toArray, List.set_cons_zero, List.set_cons_succ]
      refine wpList_run (v := .bool true) rfl (ix_gtr rfl rfl rfl (decide_eq_true y6)) ?_
      simp only [Act.put, List.setIfInBounds_toArray, List.set_cons_zero, List.set_cons_succ]
      refine wpList_run (v := .bool true) (wanted_none rfl) (ix_pickF rfl rfl rfl) ?_
      simp only [Act.put, List.setIfInBounds_toArray, List.set_cons_zero, List.set_cons_succ]
      go_upto_region 2 with fail
      refine wp_region_lit ?_
      refine wpList_run (v := .pointer none) (wanted_none rfl) (gx_assign rfl rfl) ?_
      simp only [Act.put, List.setIfInBounds_toArray, List.set_cons_zero, List.set_cons_succ]
      refine wpList_run (v := .int .i64 130) (wanted_none rfl) (gx_assign rfl rfl) ?_
      simp only [Act.put, List.setIfInBounds_toArray, List.set_cons_zero, List.set_cons_succ]
      go_wp2_with fail
      go_ret2
      exact .inl ⟨by rw [HE.out]; decide, by rw [HE.out]; rfl, Turn.refl _ _⟩
    · have HLL := Lib.hid (show 1 ≤ l.length ∧ l.length ≤ 6 from by rw [HLN.out]; omega)
      have y1 : 1 ≤ (n : Int) := by omega
      have y6 : (n : Int) ≤ 6 := by omega
      have HN6 := Lib.hid (show n ≤ 6 from by omega)
      have HN1 := Lib.hid (show 1 ≤ n from by omega)
      clear h1 h6
      go_upto_region 1 with fail
      refine wp_region_lit ?_
      refine wpList_run (v := .slice A n c) (wanted_none rfl) (exec_move rfl rfl) ?_
      simp only [Act.put, List.setIfInBounds_toArray, List.set_cons_zero, List.set_cons_succ]
      refine wpList_run (v := .int .i64 (n : Int)) (wanted_none rfl) (gx_len rfl rfl Try.underlying22) ?_
      simp only [Act.put, List.setIfInBounds_toArray, List.set_cons_zero, List.set_cons_succ]
      refine wpList_run (v := .bool false) (wanted_none rfl) (ix_lss rfl rfl rfl (decide_eq_false (by omega))) ?_
      simp only [Act.put, List.setIfInBounds_toArray, List.set_cons_zero, List.set_cons_succ]
      refine wpList_run (v := .bool false) (wanted_none rfl) (exec_move rfl rfl) ?_
      simp only [Act.put, List.setIfInBounds_toArray, List.set_cons_zero, List.set_cons_succ]
      refine wpList_run (v := .slice A n c) rfl (exec_move rfl rfl) ?_
      simp only [Act.put, List.setIfInBounds_toArray, List.set_cons_zero, List.set_cons_succ]
      refine wpList_run (v := .int .i64 (n : Int)) rfl (gx_len rfl rfl Try.underlying22) ?_
      simp only [Act.put, List.setIfInBounds_toArray, List.set_cons_zero, List.set_cons_succ]
      refine wpList_run (v := .bool false) rfl (ix_gtr rfl rfl rfl (decide_eq_false (by omega))) ?_
      simp only [Act.put, List.setIfInBounds_toArray, List.set_cons_zero, List.set_cons_succ]
      refine wpList_run (v := .bool false) (wanted_none rfl) (ix_pickF rfl rfl rfl) ?_
      simp only [Act.put, List.setIfInBounds_toArray, List.set_cons_zero, List.set_cons_succ]
      go_upto_region 3 with fail
      refine wp_region_lit ?_
      refine wpList_run (v := .slice A n c) (wanted_none rfl) (exec_move rfl rfl) ?_
      simp only [Act.put, List.setIfInBounds_toArray, List.set_cons_zero, List.set_cons_succ]
      refine wpList_run (v := .int .i64 (n : Int)) (wanted_none rfl) (gx_len rfl rfl Try.underlying22) ?_
      simp only [Act.put, List.setIfInBounds_toArray, List.set_cons_zero, List.set_cons_succ]
      refine wpList_run (v := .int .i64 0) (wanted_none rfl) (exec_move rfl rfl) ?_
      simp only [Act.put, List.setIfInBounds_toArray, List.set_cons_zero, List.set_cons_succ]
      go_wp2_with fail
      go_loopg [2, 3, 16] n (fun gk rv ev iv wr => ∃ i : Nat, iv = .int .i64 (i : Int) ∧ i + gk = n ∧ Si.okT l i ∧ Turn nowhere w wr)
      case atStart => exact ⟨0, rfl, by omega, Si.okT_zero l, Turn.refl _ _⟩
      obtain ⟨i, rfl, hgk, hok, htr⟩ := hrel
      have HGK := Lib.hid hgk
      have HOK := Lib.hid hok
      have HTR := Lib.hid htr
      have HRR := Lib.hid (HR.out.still htr)
      have yi : (i : Int) ≤ (n : Int) := by omega
      clear hgk hok htr
      by_cases hlt : i < n
      · have HLT := Lib.hid hlt
        have y3 : (i : Int) < (n : Int) := by omega
        obtain ⟨s, hs⟩ : ∃ s, l[i]? = some s := ⟨l[i]'(by rw [HLN.out]; exact hlt), List.getElem?_eq_getElem (by rw [HLN.out]; exact hlt)⟩
        obtain ⟨g, off, hA, hrg⟩ := lim_rng HRR.out hs
        subst hA
        have HS := Lib.hid hs
        have HRG := Lib.hid hrg
        clear hlt hs hrg
        go_upto_region 4 with fail
        refine wp_region_lit ?_
        refine wpList_run (v := .bool true) (wanted_none rfl) (ix_lss rfl rfl rfl (decide_eq_true y3)) ?_
        simp only [Act.put, List.setIfInBounds_toArray, List.set_cons_zero, List.set_cons_succ]
        go_upto_region 5 with fail
        refine wp_region_lit ?_
        refine wpList_run (v := .pointer (some ⟨g, off + i * 2, none⟩)) (wanted_none rfl) (gx_iaddr (i := i) (sz := 2) rfl rfl rfl Try.underlying22 size_st HLT.out rfl) ?_
        simp only [Act.put, List.setIfInBounds_toArray, List.set_cons_zero, List.set_cons_succ]
        refine wpList_run (v := .agg #[.int .i64 s.1, .int .i64 s.2]) (wanted_none rfl) (gx_loads rfl rfl HRG.out Try.underlying30 rfl (by rw [size_st]; rfl)) ?_
        simp only [Act.put, List.setIfInBounds_toArray, List.set_cons_zero, List.set_cons_succ]
        refine wpList_run (v := .pointer (some ⟨wr.heap.size, 0, none⟩)) (w' := wr.alloc (.cells #[.int .i64 0, .int .i64 0] 30)) (wanted_none rfl) (gx_alloc rfl (zero_st _)) ?_
        simp only [Act.put, List.setIfInBounds_toArray, List.set_cons_zero, List.set_cons_succ]
        have hb_ := Blk.new wr 30 #[.int .i64 0, .int .i64 0]
        have ht_ := (Turn.refl nowhere wr).alloc (.cells #[.int .i64 0, .int .i64 0] 30)
        obtain ⟨x, hg_⟩ : ∃ g, g = wr.heap.size := ⟨_, rfl⟩
        rw [← hg_] at hb_ ⊢
        have HLx := Lib.hid (show wr.heap.size ≤ x from by omega)
        clear hg_
        generalize wr.alloc (.cells #[.int .i64 0, .int .i64 0] 30) = w3 at *
        have HBx := Lib.hid hb_
        have HT3 := Lib.hid ht_
        clear hb_ ht_
        refine wpList_store_row (wanted_none rfl) 30 (.tmp 5) (.tmp 19) rfl (#[.int .i64 s.1, .int .i64 s.2]) HBx.out rfl rfl (rfl) (by rw [size_st] <;> rfl) (stA_one s) ?_
        intro w4 hb_ ht_
        have HBx4 := Lib.hid hb_
        have HT4 := Lib.hid ht_
        clear hb_ ht_
        simp only [Act.put, List.setIfInBounds_toArray, List.set_cons_zero, List.set_cons_succ]
        have HT34 := Lib.hid (HT3.out.newer HLx.out HT4.out)
        clear HBx HT3 HT4
        have HTA := Lib.hid (HTR.out.trans HT34.out fun _ _ e => e)
        by_cases ha : Si.okA s.1
        · have HA := Lib.hid ha
          clear ha
          by_cases hb : Si.okA s.2
          · have HOK2 := Lib.hid (Si.okT_step HOK.out HS.out HA.out hb)
            have HB := Lib.hid hb
            clear hb
            go_upto_region 6 with fail
            refine wp_region_lit ?_
            refine wpList_run (v := .pointer (some ⟨x, 0, none⟩)) (wanted_none rfl) (exec_field (off := 0) (d := 0) rfl rfl (by kernel_rfl)) ?_
            simp only [Act.put, List.setIfInBounds_toArray, List.set_cons_zero, List.set_cons_succ]
            refine wpList_run (v := .int .i64 s.1) (wanted_none rfl) (exec_load1 rfl rfl (by kernel_rfl) (HBx4.out.cell 0)) ?_
            simp only [Act.put, List.setIfInBounds_toArray, List.set_cons_zero, List.set_cons_succ]
            refine wpList_op (wanted_none rfl) fun K9 HK9 => ?_
            go_wp2_with fail
            refine (isA_yes w4 HA.out).mono ?_
            rintro e w4 ⟨rfl, rfl⟩
            refine HK9.out _ _ ?_
            clear HK9
            try simp only [Act.put, List.setIfInBounds_toArray, List.set_cons_zero, List.set_cons_succ]
            refine wpList_run (v := .bool false) (wanted_none rfl) (ix_not (b := true) rfl rfl) ?_
            simp only [Act.put, List.setIfInBounds_toArray, List.set_cons_zero, List.set_cons_succ]
            refine wpList_run (v := .bool false) (wanted_none rfl) (exec_move rfl rfl) ?_
            simp only [Act.put, List.setIfInBounds_toArray, List.set_cons_zero, List.set_cons_succ]
            refine wpList_run (v := .pointer (some ⟨x, 1, none⟩)) rfl (exec_field (off := 0) (d := 1) rfl rfl (by kernel_rfl)) ?_
            simp only [Act.put, List.setIfInBounds_toArray, List.set_cons_zero, List.set_cons_succ]
            refine wpList_run (v := .int .i64 s.2) rfl (exec_load1 rfl rfl (by kernel_rfl) (HBx4.out.cell 1)) ?_
            simp only [Act.put, List.setIfInBounds_toArray, List.set_cons_zero, List.set_cons_succ]
            refine wpList_op (by go_simp) fun K9 HK9 => ?_
            go_wp2_with fail
            refine (isA_yes w4 HB.out).mono ?_
            rintro e w4 ⟨rfl, rfl⟩
            refine HK9.out _ _ ?_
            clear HK9
            try simp only [Act.put, List.setIfInBounds_toArray, List.set_cons_zero, List.set_cons_succ]
            refine wpList_run (v := .bool false) rfl (ix_not (b := true) rfl rfl) ?_
            simp only [Act.put, List.setIfInBounds_toArray, List.set_cons_zero, List.set_cons_succ]
            refine wpList_run (v := .bool false) (wanted_none rfl) (ix_pickF rfl rfl rfl) ?_
            simp only [Act.put, List.setIfInBounds_toArray, List.set_cons_zero, List.set_cons_succ]
            go_upto_region 8 with fail
            refine wp_region_lit ?_
            refine wpList_run (v := .int .i64 ((i + 1 : Nat) : Int)) (wanted_none rfl) (ix_add rfl rfl rfl (by omega) (by omega)) ?_
            simp only [Act.put, List.setIfInBounds_toArray, List.set_cons_zero, List.set_cons_succ]
            refine wpList_run (v := .int .i64 ((i + 1 : Nat) : Int)) (wanted_none rfl) (exec_move rfl rfl) ?_
            simp only [Act.put, List.setIfInBounds_toArray, List.set_cons_zero, List.set_cons_succ]
            go_wp2_with fail
            go_roundg (n - (i + 1))
            case measure => have := HGK.out; have := HLT.out; omega
            case rel => exact ⟨i + 1, rfl, by have := HLT.out; omega, HOK2.out, HTA.out⟩
          · have HE := Lib.hid (show Si.newE l = 150 from Si.newE_bad HLL.out fun e => hb (e s (List.mem_of_getElem? HS.out)).2)
            have HB := Lib.hid hb
            clear hb
            go_upto_region 6 with fail
            refine wp_region_lit ?_
            refine wpList_run (v := .pointer (some ⟨x, 0, none⟩)) (wanted_none rfl) (exec_field (off := 0) (d := 0) rfl rfl (by kernel_rfl)) ?_
            simp only [Act.put, List.setIfInBounds_toArray, List.set_cons_zero, List.set_cons_succ]
            refine wpList_run (v := .int .i64 s.1) (wanted_none rfl) (exec_load1 rfl rfl (by kernel_rfl) (HBx4.out.cell 0)) ?_
            simp only [Act.put, List.setIfInBounds_toArray, List.set_cons_zero, List.set_cons_succ]
            refine wpList_op (wanted_none rfl) fun K9 HK9 => ?_
            go_wp2_with fail
            refine (isA_yes w4 HA.out).mono ?_
            rintro e w4 ⟨rfl, rfl⟩
            refine HK9.out _ _ ?_
            clear HK9
            try simp only [Act.put, List.setIfInBounds_toArray, List.set_cons_zero, List.set_cons_succ]
            refine wpList_run (v := .bool false) (wanted_none rfl) (ix_not (b := true) rfl rfl) ?_
            simp only [Act.put, List.setIfInBounds_toArray, List.set_cons_zero, List.set_cons_succ]
            refine wpList_run (v := .bool false) (wanted_none rfl) (exec_move rfl rfl) ?_
            simp only [Act.put, List.setIfInBounds_toArray, List.set_cons_zero, List.set_cons_succ]
            refine wpList_run (v := .pointer (some ⟨x, 1, none⟩)) rfl (exec_field (off := 0) (d := 1) rfl rfl (by kernel_rfl)) ?_
            simp only [Act.put, List.setIfInBounds_toArray, List.set_cons_zero, List.set_cons_succ]
            refine wpList_run (v := .int .i64 s.2) rfl (exec_load1 rfl rfl (by kernel_rfl) (HBx4.out.cell 1)) ?_
            simp only [Act.put, List.setIfInBounds_toArray, List.set_cons_zero, List.set_cons_succ]
            refine wpList_op (by go_simp) fun K9 HK9 => ?_
            go_wp2_with fail
            refine (isA_no w4 HB.out).mono ?_
            rintro e w4 ⟨rfl, rfl⟩
            refine HK9.out _ _ ?_
            clear HK9
            try simp only [Act.put, List.setIfInBounds_toArray, List.set_cons_zero, List.set_cons_succ]
            refine wpList_run (v := .bool true) rfl (ix_not (b := false) rfl rfl) ?_
            simp only [Act.put, List.setIfInBounds_toArray, List.set_cons_zero, List.set_cons_succ]
            refine wpList_run (v := .bool true) (wanted_none rfl) (ix_pickF rfl rfl rfl) ?_
            simp only [Act.put, List.setIfInBounds_toArray, List.set_cons_zero, List.set_cons_succ]
            go_upto_region 7 with fail
            refine wp_region_lit ?_
            refine wpList_run (v := .pointer none) (wanted_none rfl) (gx_assign rfl rfl) ?_
            simp only [Act.put, List.setIfInBounds_toArray, List.set_cons_zero, List.set_cons_succ]
            refine wpList_run (v := .int .i64 150) (wanted_none rfl) (gx_assign rfl rfl) ?_
            simp only [Act.put, List.setIfInBounds_toArray, List.set_cons_zero, List.set_cons_succ]
            go_wp2_with fail
            go_ret2
            exact .inl ⟨by rw [HE.out]; decide, by rw [HE.out]; rfl, HTA.out⟩
        · have HE := Lib.hid (show Si.newE l = 150 from Si.newE_bad HLL.out fun e => ha (e s (List.mem_of_getElem? HS.out)).1)
          have HA := Lib.hid ha
          clear ha
          go_upto_region 6 with fail
          first
          | (rename_i K9 hK9; have HKC := Lib.hid hK9; clear hK9)
          | (rename_i K9 hK9 K8; have HKC := Lib.hid hK9; clear hK9)
          refine wp_region_lit ?_
          refine wpList_run (v := .pointer (some ⟨x, 0, none⟩)) (wanted_none rfl) (exec_field (off := 0) (d := 0) rfl rfl (by kernel_rfl)) ?_
          simp only [Act.put, List.setIfInBounds_toArray, List.set_cons_zero, List.set_cons_succ]
          refine wpList_run (v := .int .i64 s.1) (wanted_none rfl) (exec_load1 rfl rfl (by kernel_rfl) (HBx4.out.cell 0)) ?_
          simp only [Act.put, List.setIfInBounds_toArray, List.set_cons_zero, List.set_cons_succ]
          refine wpList_op (wanted_none rfl) fun K9 HK9 => ?_
          go_wp2_with fail
          refine (isA_no w4 HA.out).mono ?_
          rintro e w4 ⟨rfl, rfl⟩
          refine HK9.out _ _ ?_
          clear HK9
          try simp only [Act.put, List.setIfInBounds_toArray, List.set_cons_zero, List.set_cons_succ]
          refine wpList_run (v := .bool true) (wanted_none rfl) (ix_not (b := false) rfl rfl) ?_
          simp only [Act.put, List.setIfInBounds_toArray, List.set_cons_zero, List.set_cons_succ]
          refine wpList_run (v := .bool true) (wanted_none rfl) (exec_move rfl rfl) ?_
          simp only [Act.put, List.setIfInBounds_toArray, List.set_cons_zero, List.set_cons_succ]
          go_wp2_with fail
          refine HKC.out _ _ ?_
          clear HKC
          go_upto_region 7 with fail
          refine wp_region_lit ?_
          refine wpList_run (v := .pointer none) (wanted_none rfl) (gx_assign rfl rfl) ?_
          simp only [Act.put, List.setIfInBounds_toArray, List.set_cons_zero, List.set_cons_succ]
          refine wpList_run (v := .int .i64 150) (wanted_none rfl) (gx_assign rfl rfl) ?_
          simp only [Act.put, List.setIfInBounds_toArray, List.set_cons_zero, List.set_cons_succ]
          go_wp2_with fail
          go_ret2
          exact .inl ⟨by rw [HE.out]; decide, by rw [HE.out]; rfl, HTA.out⟩
      · obtain rfl : i = n := by omega
        have HOKL := Lib.hid (Si.okT_end HOK.out HLN.out)
        have HE := Lib.hid (Si.newE_ok HLL.out HOKL.out)
        have y3 : ¬ (i : Int) < (i : Int) := by omega
        have HAS : ∃ g off, A = some ⟨g, off, none⟩ := by
          obtain ⟨_, _, _, h4⟩ := HR.out
          obtain ⟨g, off, e, _⟩ := h4 HN1.out
          exact ⟨g, off, e⟩
        obtain ⟨g, off, rfl⟩ := HAS
        clear hlt
        go_upto_region 4 with fail
        refine wp_region_lit ?_
        refine wpList_run (v := .bool false) (wanted_none rfl) (ix_lss rfl rfl rfl (decide_eq_false y3)) ?_
        simp only [Act.put, List.setIfInBounds_toArray, List.set_cons_zero, List.set_cons_succ]
        go_upto_region 9 with fail
        refine wp_region_lit ?_
        refine wpList_run (v := .slice (some ⟨g, off, none⟩) i c) (wanted_none rfl) (exec_move rfl rfl) ?_
        simp only [Act.put, List.setIfInBounds_toArray, List.set_cons_zero, List.set_cons_succ]
        refine wpList_op (wanted_none rfl) fun K9 HK9 => ?_
        go_wp2_with fail
        refine (lclone_walk (c := c) HRR.out HN6.out).mono ?_
        rintro e w3 ⟨A2, c2, rfl, hor, ht⟩
        refine HK9.out _ _ ?_
        clear HK9
        try simp only [Act.put, List.setIfInBounds_toArray, List.set_cons_zero, List.set_cons_succ]
        have hmp := MapAt.made cardK intE w3
        have ht1 := (Turn.refl nowhere w3).alloc (.map #[] 0)
        obtain ⟨mb, hmb⟩ : ∃ x, x = w3.heap.size := ⟨_, rfl⟩
        obtain ⟨w4, hw4⟩ : ∃ v, v = w3.alloc (.map #[] 0) := ⟨_, rfl⟩
        have HMK := Lib.hid (show ∀ (a : Act) (o : Oper) (t : TypeId), o.op = .makeMap t none → (execOp a.eval o).run Try.prog w3 = .ok (.value (.map (some mb))) w4 from fun a o t ho => by rw [hmb, hw4]; exact exec_makeMap ho)
        rw [← hmb, ← hw4] at hmp
        rw [← hw4] at ht1
        have hbn := Blk.new w4 49 #[.slice A2 i c2, .map (some mb)]
        have ht2 := (Turn.refl nowhere w4).alloc (.cells #[.slice A2 i c2, .map (some mb)] 49)
        have hbx := boxDk A2 i c2 mb w4
        have hsz := ht1.size
        have hsr := ht.size
        have hsw := HTR.out.size
        obtain ⟨t, htt⟩ : ∃ y, y = w4.heap.size := ⟨_, rfl⟩
        rw [← htt] at hbn hbx
        generalize w4.alloc (.cells #[.slice A2 i c2, .map (some mb)] 49) = w5 at *
        have hT := (HTR.out.trans ht fun _ _ e => e).trans (ht1.trans ht2 fun _ _ e => e) fun _ _ e => e
        have HM := Lib.hid (show MadeD w l 0 (fun _ => 0) (.pointer (some ⟨t, 0, none⟩)) w5 from ⟨t, mb, rfl, ⟨⟨A2, c2, by rw [HLN.out]; exact hbn, by rw [HLN.out]; exact (hor.less (Nat.zero_le _)).still (ht1.trans ht2 fun _ _ e => e)⟩, ⟨_, hmp.turn ht2 (fun e => e), fun _ => rfl⟩, HOKL.out, HLL.out, fun _ => ⟨by decide, by decide⟩⟩, by omega, by omega, hT⟩)
        have HLB := Lib.hid (show LimB w5 (.pointer (some ⟨t, 0, none⟩)) w.heap.size from ⟨t, A2, i, c2, _, rfl, hbn, fun g hg => by have := (hor.lt hg).1; omega⟩)
        have HBX := Lib.hid hbx
        clear hmp ht1 hmb hw4 hbn ht2 hbx hsz hsr hsw htt hT hor ht
        refine wpList_run (v := .map (some mb)) (w' := w4) (wanted_none rfl) (HMK.out _ _ _ rfl) ?_
        simp only [Act.put, List.setIfInBounds_toArray, List.set_cons_zero, List.set_cons_succ]
        refine wpList_run (v := .agg #[.slice A2 i c2, .map (some mb)]) (wanted_none rfl) (gx_build2 rfl rfl rfl (buildDk _ _ _ _ _)) ?_
        simp only [Act.put, List.setIfInBounds_toArray, List.set_cons_zero, List.set_cons_succ]
        refine wpList_run (v := .pointer (some ⟨t, 0, none⟩)) (w' := w5) (wanted_none rfl) (gx_box rfl rfl HBX.out) ?_
        simp only [Act.put, List.setIfInBounds_toArray, List.set_cons_zero, List.set_cons_succ]
        refine wpList_run (v := .pointer (some ⟨t, 0, none⟩)) (wanted_none rfl) (gx_assign rfl rfl) ?_
        simp only [Act.put, List.setIfInBounds_toArray, List.set_cons_zero, List.set_cons_succ]
        refine wpList_run (v := .int .i64 0) (wanted_none rfl) (gx_assign rfl rfl) ?_
        simp only [Act.put, List.setIfInBounds_toArray, List.set_cons_zero, List.set_cons_succ]
        go_wp2_with fail
        go_ret2
        exact .inr ⟨HE.out, _, rfl, HM.out, HLB.out⟩
theorem wp_mapUpdate {P : Program} {o : Oper} {a : Act} {w w' : World} {K : Act → World → Prop} {Q : Exit → Act → World → Prop} (mm x v : Operand) (t : TypeId) (hop : o.op = Op.mapUpdate t mm x v) {M kv u : Value} (hm : a.eval mm = M) (hx : a.eval x = kv) (hv : a.eval v = u)
    (hrun : (Instr.mapUpdate t M kv u).run P w = .ok () w') (hK : K (a.put o.dst undef) w') : o.wp P a w K Q := by
  unfold Oper.wp
  simp [execOp, hop, hm, hx, hv, hrun, Result.andThen]
  exact hK
theorem Desk.put {w : World} {a b n : Nat} {l : Lims} {h : Card → Int} (d : Desk w a b l n h) (hn : n ≤ 1000000) (c : Crd) {x : Int} (hx : Si.okA x) :
    ∃ w', (Instr.mapUpdate 47 (.map (some b)) (cardV c.1) (.int .i64 x)).run Try.prog w = .ok () w' ∧ Desk w' a b l (n + 1) (Si.put h c.1 x) ∧ Turn (only b) w w' := by
  obtain ⟨f, h1, h2⟩ := d.map
  obtain ⟨w', hrun, hm, hg⟩ := h1.update Try.underlying47 (by unfold maxLen; omega) (x := c) trivial x
  have ht : Turn (only b) w w' := (Turn.refl _ w).grown hg fun g e _ => by injection e with e; exact e.symm
  have hS : ∀ k, k < w.heap.size → only b k → Siw w k := fun k _ e => by rw [show k = b from e]; exact d.siw
  obtain ⟨A, q, g1, g2⟩ := d.blk
  refine ⟨w', hrun, ⟨⟨A, q, g1.turn ht (fun e => siw_blk g1 (by decide) (hS _ g1.lt e)), g2.turn ht fun y hy e => siw_orw g2 (by decide) y hy (hS _ (g2.lt hy).2 e)⟩, ⟨_, hm, fun y => ?_⟩, d.okl, d.len, fun y => ?_⟩, ht⟩
  · unfold upd Si.put
    by_cases e : y = c
    · rw [if_pos e, if_pos (by rw [e])]
      rfl
    · rw [if_neg e, if_neg fun e' => e (Subtype.ext e')]
      exact h2 y
  · unfold Si.put
    split
    · exact hx
    · exact d.okh y
def AskQ (w : World) (a b : Nat) (l : Lims) (n : Nat) (h : Card → Int) (c : Card) (x : Int) (e : Ending) (w' : World) : Prop :=
  e = .returned (.int .i64 (Si.askE l h c x)) ∧ Desk w' a b l (n + 1) (Si.askH l h c x) ∧ Turn (only b) w w'
theorem ask_same {w w' : World} {a b n : Nat} {l : Lims} {h : Card → Int} {c : Card} {x : Int} (d : Desk w a b l n h) (ht : Turn nowhere w w') {E : Int} (hE : Si.askE l h c x = E ∧ Si.askH l h c x = h) : AskQ w a b l n h c x (.returned (.int .i64 E)) w' := by
  refine ⟨by rw [hE.1], ?_, ht.mono fun k _ e => e.elim⟩
  rw [hE.2]
  exact (d.still ht).mono (by omega)
set_option maxRecDepth 20000 in
set_option maxHeartbeats 4000000 in
theorem Ask_walk {w : World} {a b n : Nat} {l : Lims} {h : Card → Int} (d : Desk w a b l n h) (hn : n ≤ 1000000) {mm x : Int} {pan : List UInt8} (hc : (Lit.int .i64 mm).wf = true ∧ pan.length ≤ 281474976710656) :
    Calls Try.prog 14 #[.pointer (some ⟨a, 0, none⟩), .int .i64 mm, strV pan, .int .i64 x] w (AskQ w a b l n h (mm, pan) x) := by
  obtain ⟨g, q, hb, hr⟩ := d.open_
  obtain ⟨n2, hn2⟩ : ∃ y, y = l.length := ⟨_, rfl⟩
  rw [← hn2] at hb hr
  have HD := Lib.hid d
  have HB := Lib.hid hb
  have HR := Lib.hid hr
  have HL2 := Lib.hid hn2
  have HN := Lib.hid hn
  have HC := Lib.hid hc
  have HPL := Lib.hid hc.2
  have hl6 := d.len.2
  have y2 : (n2 : Int) ≤ 6 := by omega
  clear hb hr d hn hc hl6 hn2
  go_enter Try.func14, Try.ntmps14
  go_upto_region 0 with fail
  refine wp_region_lit ?_
  refine wpList_run (v := .int .i64 0) (wanted_none rfl) (gx_assign rfl rfl) ?_
  simp only [Act.put, List.setIfInBounds_toArray, List.set_cons_zero, List.set_cons_succ]
  by_cases h0 : mm < 0
  · go_upto_region 1 with fail
    first
    | (rename_i K9 hK9; have HKC := Lib.hid hK9; clear hK9)
    | (rename_i K9 hK9 K8; have HKC := Lib.hid hK9; clear hK9)
    refine wp_region_lit ?_
    refine wpList_run (v := .int .i64 mm) (wanted_none rfl) (exec_move rfl rfl) ?_
    simp only [Act.put, List.setIfInBounds_toArray, List.set_cons_zero, List.set_cons_succ]
    refine wpList_run (v := .bool true) (wanted_none rfl) (ix_lss rfl rfl rfl (decide_eq_true h0)) ?_
    simp only [Act.put, List.setIfInBounds_toArray, List.set_cons_zero, List.set_cons_succ]
    refine wpList_run (v := .bool true) (wanted_none rfl) (exec_move rfl rfl) ?_
    simp only [Act.put, List.setIfInBounds_toArray, List.set_cons_zero, List.set_cons_succ]
    go_wp2_with fail
    refine HKC.out _ _ ?_
    clear HKC
    go_upto_region 2 with fail
    refine wp_region_lit ?_
    refine wpList_run (v := .int .i64 130) (wanted_none rfl) (gx_assign rfl rfl) ?_
    simp only [Act.put, List.setIfInBounds_toArray, List.set_cons_zero, List.set_cons_succ]
    go_wp2_with fail
    go_ret
    exact ask_same HD.out (Turn.refl _ _) (Si.ask_bad1 (.inl h0))
  · obtain ⟨i, hi⟩ : ∃ i : Nat, mm = (i : Int) := ⟨mm.toNat, by omega⟩
    subst hi
    clear h0
    have y0 : 0 ≤ (i : Int) := by omega
    by_cases h1 : n2 ≤ i
    · have y1 : (n2 : Int) ≤ (i : Int) := by omega
      go_upto_region 1 with fail
      refine wp_region_lit ?_
      refine wpList_run (v := .int .i64 (i : Int)) (wanted_none rfl) (exec_move rfl rfl) ?_
      simp only [Act.put, List.setIfInBounds_toArray, List.set_cons_zero, List.set_cons_succ]
      refine wpList_run (v := .bool false) (wanted_none rfl) (ix_lss rfl rfl rfl (decide_eq_false (by omega))) ?_
      simp only [Act.put, List.setIfInBounds_toArray, List.set_cons_zero, List.set_cons_succ]
      refine wpList_run (v := .bool false) (wanted_none rfl) (exec_move rfl rfl) ?_
      simp only [Act.put, List.setIfInBounds_toArray, List.set_cons_zero, List.set_cons_succ]
      refine wpList_run (v := .int .i64 (i : Int)) rfl (exec_move rfl rfl) ?_
      simp only [Act.put, List.setIfInBounds_toArray, List.set_cons_zero, List.set_cons_succ]
      refine wpList_run (v := .pointer (some ⟨a, 0, none⟩)) rfl (exec_move rfl rfl) ?_
      simp only [Act.put, List.setIfInBounds_toArray, List.set_cons_zero, List.set_cons_succ]
      refine wpList_run (v := .pointer (some ⟨a, 0, none⟩)) rfl (exec_nil rfl rfl) ?_
      simp only [Act.put, List.setIfInBounds_toArray, List.set_cons_zero, List.set_cons_succ]
      refine wpList_run (v := .pointer (some ⟨a, 0, none⟩)) rfl (exec_field (off := 0) (d := 0) rfl rfl (by kernel_rfl)) ?_
      simp only [Act.put, List.setIfInBounds_toArray, List.set_cons_zero, List.set_cons_succ]
      refine wpList_run (v := .slice (some ⟨g, 0, none⟩) n2 q) rfl (exec_load1 rfl rfl (by kernel_rfl) (HB.out.cell 0)) ?_
      simp only [Act.put, List.setIfInBounds_toArray, List.set_cons_zero, List.set_cons_succ]
      refine wpList_run (v := .int .i64 (n2 : Int)) rfl (gx_len rfl rfl Try.underlying22) ?_
      simp only [Act.put, List.setIfInBounds_toArray, List.set_cons_zero, List.set_cons_succ]
      refine wpList_run (v := .bool true) rfl (ix_geq rfl rfl rfl (decide_eq_true y1)) ?_
      simp only [Act.put, List.setIfInBounds_toArray, List.set_cons_zero, List.set_cons_succ]
      refine wpList_run (v := .bool true) (wanted_none rfl) (ix_pickF rfl rfl rfl) ?_
      simp only [Act.put, List.setIfInBounds_toArray, List.set_cons_zero, List.set_cons_succ]
      go_upto_region 2 with fail
      refine wp_region_lit ?_
      refine wpList_run (v := .int .i64 130) (wanted_none rfl) (gx_assign rfl rfl) ?_
      simp only [Act.put, List.setIfInBounds_toArray, List.set_cons_zero, List.set_cons_succ]
      go_wp2_with fail
      go_ret
      exact ask_same HD.out (Turn.refl _ _) (Si.ask_bad1 (.inr (by rw [← HL2.out]; exact y1)))
    · have y1 : (i : Int) < (n2 : Int) := by omega
      have HI := Lib.hid (show i < n2 from by omega)
      have HBAD := Lib.hid (show ¬ ((i : Int) < 0 ∨ (l.length : Int) ≤ (i : Int)) from by rw [← HL2.out]; omega)
      clear h1
      go_upto_region 1 with fail
      refine wp_region_lit ?_
      refine wpList_run (v := .int .i64 (i : Int)) (wanted_none rfl) (exec_move rfl rfl) ?_
      simp only [Act.put, List.setIfInBounds_toArray, List.set_cons_zero, List.set_cons_succ]
      refine wpList_run (v := .bool false) (wanted_none rfl) (ix_lss rfl rfl rfl (decide_eq_false (by omega))) ?_
      simp only [Act.put, List.setIfInBounds_toArray, List.set_cons_zero, List.set_cons_succ]
      refine wpList_run (v := .bool false) (wanted_none rfl) (exec_move rfl rfl) ?_
      simp only [Act.put, List.setIfInBounds_toArray, List.set_cons_zero, List.set_cons_succ]
      refine wpList_run (v := .int .i64 (i : Int)) rfl (exec_move rfl rfl) ?_
      simp only [Act.put, List.setIfInBounds_toArray, List.set_cons_zero, List.set_cons_succ]
      refine wpList_run (v := .pointer (some ⟨a, 0, none⟩)) rfl (exec_move rfl rfl) ?_
      simp only [Act.put, List.setIfInBounds_toArray, List.set_cons_zero, List.set_cons_succ]
      refine wpList_run (v := .pointer (some ⟨a, 0, none⟩)) rfl (exec_nil rfl rfl) ?_
      simp only [Act.put, List.setIfInBounds_toArray, List.set_cons_zero, List.set_cons_succ]
      refine wpList_run (v := .pointer (some ⟨a, 0, none⟩)) rfl (exec_field (off := 0) (d := 0) rfl rfl (by kernel_rfl)) ?_
      simp only [Act.put, List.setIfInBounds_toArray, List.set_cons_zero, List.set_cons_succ]
      refine wpList_run (v := .slice (some ⟨g, 0, none⟩) n2 q) rfl (exec_load1 rfl rfl (by kernel_rfl) (HB.out.cell 0)) ?_
      simp only [Act.put, List.setIfInBounds_toArray, List.set_cons_zero, List.set_cons_succ]
      refine wpList_run (v := .int .i64 (n2 : Int)) rfl (gx_len rfl rfl Try.underlying22) ?_
      simp only [Act.put, List.setIfInBounds_toArray, List.set_cons_zero, List.set_cons_succ]
      refine wpList_run (v := .bool false) rfl (ix_geq rfl rfl rfl (decide_eq_false (by omega))) ?_
      simp only [Act.put, List.setIfInBounds_toArray, List.set_cons_zero, List.set_cons_succ]
      refine wpList_run (v := .bool false) (wanted_none rfl) (ix_pickF rfl rfl rfl) ?_
      simp only [Act.put, List.setIfInBounds_toArray, List.set_cons_zero, List.set_cons_succ]
      by_cases hx : Si.okA x
      · have HX := Lib.hid hx
        have x0 : 0 ≤ x := hx.1
        have x1 : x ≤ 999999999999 := hx.2
        clear hx
        go_upto_region 3 with fail
        refine wp_region_lit ?_
        refine wpList_run (v := .int .i64 x) (wanted_none rfl) (exec_move rfl rfl) ?_
        simp only [Act.put, List.setIfInBounds_toArray, List.set_cons_zero, List.set_cons_succ]
        refine wpList_op (wanted_none rfl) fun K9 HK9 => ?_
        go_wp2_with fail
        refine (isA_yes w HX.out).mono ?_
        rintro e w ⟨rfl, rfl⟩
        refine HK9.out _ _ ?_
        clear HK9
        try simp only [Act.put, List.setIfInBounds_toArray, List.set_cons_zero, List.set_cons_succ]
        refine wpList_run (v := .bool false) (wanted_none rfl) (ix_not (b := true) rfl rfl) ?_
        simp only [Act.put, List.setIfInBounds_toArray, List.set_cons_zero, List.set_cons_succ]
        obtain ⟨s, hs⟩ : ∃ s, l[i]? = some s := ⟨l[i]'(by rw [← HL2.out]; exact HI.out), List.getElem?_eq_getElem (by rw [← HL2.out]; exact HI.out)⟩
        have HS := Lib.hid hs
        have HRG := Lib.hid (show w.rangeAt g (0 + i * 2) (limC s) from HR.out.el0 (by rw [List.getElem?_map, hs]; rfl))
        clear hs
        go_upto_region 5 with fail
        refine wp_region_lit ?_
        refine wpList_run (v := .pointer (some ⟨a, 0, none⟩)) (wanted_none rfl) (exec_move rfl rfl) ?_
        simp only [Act.put, List.setIfInBounds_toArray, List.set_cons_zero, List.set_cons_succ]
        refine wpList_run (v := .pointer (some ⟨a, 0, none⟩)) (wanted_none rfl) (exec_nil rfl rfl) ?_
        simp only [Act.put, List.setIfInBounds_toArray, List.set_cons_zero, List.set_cons_succ]
        refine wpList_run (v := .pointer (some ⟨a, 0, none⟩)) (wanted_none rfl) (exec_field (off := 0) (d := 0) rfl rfl (by kernel_rfl)) ?_
        simp only [Act.put, List.setIfInBounds_toArray, List.set_cons_zero, List.set_cons_succ]
        refine wpList_run (v := .slice (some ⟨g, 0, none⟩) n2 q) (wanted_none rfl) (exec_load1 rfl rfl (by kernel_rfl) (HB.out.cell 0)) ?_
        simp only [Act.put, List.setIfInBounds_toArray, List.set_cons_zero, List.set_cons_succ]
        refine wpList_run (v := .int .i64 (i : Int)) (wanted_none rfl) (exec_move rfl rfl) ?_
        simp only [Act.put, List.setIfInBounds_toArray, List.set_cons_zero, List.set_cons_succ]
        refine wpList_run (v := .pointer (some ⟨g, 0 + i * 2, none⟩)) (wanted_none rfl) (gx_iaddr (i := i) (sz := 2) rfl rfl rfl Try.underlying22 size_st HI.out rfl) ?_
        simp only [Act.put, List.setIfInBounds_toArray, List.set_cons_zero, List.set_cons_succ]
        refine wpList_run (v := .agg #[.int .i64 s.1, .int .i64 s.2]) (wanted_none rfl) (gx_loads rfl rfl HRG.out Try.underlying30 rfl (by rw [size_st]; rfl)) ?_
        simp only [Act.put, List.setIfInBounds_toArray, List.set_cons_zero, List.set_cons_succ]
        refine wpList_run (v := .pointer (some ⟨w.heap.size, 0, none⟩)) (w' := w.alloc (.cells #[.int .i64 0, .int .i64 0] 30)) (wanted_none rfl) (gx_alloc rfl (zero_st _)) ?_
        simp only [Act.put, List.setIfInBounds_toArray, List.set_cons_zero, List.set_cons_succ]
        have hb_ := Blk.new w 30 #[.int .i64 0, .int .i64 0]
        have ht_ := (Turn.refl nowhere w).alloc (.cells #[.int .i64 0, .int .i64 0] 30)
        obtain ⟨y, hg_⟩ : ∃ g, g = w.heap.size := ⟨_, rfl⟩
        rw [← hg_] at hb_ ⊢
        have HLy := Lib.hid (show w.heap.size ≤ y from by omega)
        clear hg_
        generalize w.alloc (.cells #[.int .i64 0, .int .i64 0] 30) = w3 at *
        have HBy := Lib.hid hb_
        have HT3 := Lib.hid ht_
        clear hb_ ht_
        refine wpList_store_row (wanted_none rfl) 30 (.tmp 9) (.tmp 32) rfl (#[.int .i64 s.1, .int .i64 s.2]) HBy.out rfl rfl (rfl) (by rw [size_st] <;> rfl) (stA_one s) ?_
        intro w4 hb_ ht_
        have HBy4 := Lib.hid hb_
        have HT4 := Lib.hid ht_
        clear hb_ ht_
        simp only [Act.put, List.setIfInBounds_toArray, List.set_cons_zero, List.set_cons_succ]
        have HT34 := Lib.hid (HT3.out.newer HLy.out HT4.out)
        clear HBy HT3 HT4
        have HD4 := Lib.hid (HD.out.still HT34.out)
        have HHW := Lib.hid (Had_walk HD4.out ⟨((i : Int), pan), HC.out⟩)
        obtain ⟨hd, hhd⟩ : ∃ y, y = h ((i : Int), pan) := ⟨_, rfl⟩
        have HHD := Lib.hid hhd
        have hok := HD.out.okh ((i : Int), pan)
        rw [← hhd] at hok
        have HOH := Lib.hid hok
        have z0 : 0 ≤ hd := hok.1
        have z1 : hd ≤ 999999999999 := hok.2
        clear hhd hok
        go_upto_region 6 with fail
        refine wp_region_lit ?_
        refine wpList_run (v := .pointer (some ⟨a, 0, none⟩)) (wanted_none rfl) (exec_move rfl rfl) ?_
        simp only [Act.put, List.setIfInBounds_toArray, List.set_cons_zero, List.set_cons_succ]
        refine wpList_run (v := .int .i64 (i : Int)) (wanted_none rfl) (exec_move rfl rfl) ?_
        simp only [Act.put, List.setIfInBounds_toArray, List.set_cons_zero, List.set_cons_succ]
        refine wpList_run (v := strV pan) (wanted_none rfl) (exec_move rfl rfl) ?_
        simp only [Act.put, List.setIfInBounds_toArray, List.set_cons_zero, List.set_cons_succ]
        refine wpList_op (wanted_none rfl) fun K9 HK9 => ?_
        go_wp2_with fail
        refine ((HHW.out.mono fun e w' h => by rw [← HHD.out] at h; exact h)).mono ?_
        rintro e w4 ⟨rfl, rfl⟩
        refine HK9.out _ _ ?_
        clear HK9
        try simp only [Act.put, List.setIfInBounds_toArray, List.set_cons_zero, List.set_cons_succ]
        refine wpList_run (v := .int .i64 x) (wanted_none rfl) (exec_move rfl rfl) ?_
        simp only [Act.put, List.setIfInBounds_toArray, List.set_cons_zero, List.set_cons_succ]
        refine wpList_op (wanted_none rfl) fun K9 HK9 => ?_
        go_wp2_with fail
        refine (madd_walk w4 HOH.out HX.out).mono ?_
        rintro e w4 ⟨rfl, rfl⟩
        refine HK9.out _ _ ?_
        clear HK9
        try simp only [Act.put, List.setIfInBounds_toArray, List.set_cons_zero, List.set_cons_succ]
        refine wpList_run (v := .tuple #[.int .i64 (hd + x), .int .i64 0]) (wanted_none rfl) (exec_move rfl rfl) ?_
        simp only [Act.put, List.setIfInBounds_toArray, List.set_cons_zero, List.set_cons_succ]
        refine wpList_run (v := .int .i64 (hd + x)) (wanted_none rfl) (ix_extract rfl rfl rfl) ?_
        simp only [Act.put, List.setIfInBounds_toArray, List.set_cons_zero, List.set_cons_succ]
        refine wpList_run (v := .int .i64 0) (wanted_none rfl) (ix_extract rfl rfl rfl) ?_
        simp only [Act.put, List.setIfInBounds_toArray, List.set_cons_zero, List.set_cons_succ]
        refine wpList_run (v := .int .i64 (hd + x)) (wanted_none rfl) (gx_assign rfl rfl) ?_
        simp only [Act.put, List.setIfInBounds_toArray, List.set_cons_zero, List.set_cons_succ]
        refine wpList_run (v := .int .i64 0) (wanted_none rfl) (gx_assign rfl rfl) ?_
        simp only [Act.put, List.setIfInBounds_toArray, List.set_cons_zero, List.set_cons_succ]
        obtain ⟨sm, hsm⟩ : ∃ y, y = hd + x := ⟨_, rfl⟩
        rw [← hsm]
        have HSM := Lib.hid hsm
        clear hsm
        by_cases h2 : s.1 < x
        · go_upto_region 7 with fail
          first
          | (rename_i K9 hK9; have HKC := Lib.hid hK9; clear hK9)
          | (rename_i K9 hK9 K8; have HKC := Lib.hid hK9; clear hK9)
          refine wp_region_lit ?_
          refine wpList_run (v := .int .i64 0) (wanted_none rfl) (exec_move rfl rfl) ?_
          simp only [Act.put, List.setIfInBounds_toArray, List.set_cons_zero, List.set_cons_succ]
          refine wpList_run (v := .bool false) (wanted_none rfl) (ix_neq rfl rfl rfl (by decide)) ?_
          simp only [Act.put, List.setIfInBounds_toArray, List.set_cons_zero, List.set_cons_succ]
          refine wpList_run (v := .bool false) (wanted_none rfl) (exec_move rfl rfl) ?_
          simp only [Act.put, List.setIfInBounds_toArray, List.set_cons_zero, List.set_cons_succ]
          refine wpList_run (v := .int .i64 x) rfl (exec_move rfl rfl) ?_
          simp only [Act.put, List.setIfInBounds_toArray, List.set_cons_zero, List.set_cons_succ]
          refine wpList_run (v := .pointer (some ⟨y, 0, none⟩)) rfl (exec_field (off := 0) (d := 0) rfl rfl (by kernel_rfl)) ?_
          simp only [Act.put, List.setIfInBounds_toArray, List.set_cons_zero, List.set_cons_succ]
          refine wpList_run (v := .int .i64 s.1) rfl (exec_load1 rfl rfl (by kernel_rfl) (HBy4.out.cell 0)) ?_
          simp only [Act.put, List.setIfInBounds_toArray, List.set_cons_zero, List.set_cons_succ]
          refine wpList_run (v := .bool true) rfl (ix_gtr rfl rfl rfl (decide_eq_true h2)) ?_
          simp only [Act.put, List.setIfInBounds_toArray, List.set_cons_zero, List.set_cons_succ]
          refine wpList_run (v := .bool true) (wanted_none rfl) (ix_pickF rfl rfl rfl) ?_
          simp only [Act.put, List.setIfInBounds_toArray, List.set_cons_zero, List.set_cons_succ]
          refine wpList_run (v := .bool true) (wanted_none rfl) (exec_move rfl rfl) ?_
          simp only [Act.put, List.setIfInBounds_toArray, List.set_cons_zero, List.set_cons_succ]
          go_wp2_with fail
          refine HKC.out _ _ ?_
          clear HKC
          go_upto_region 8 with fail
          refine wp_region_lit ?_
          refine wpList_run (v := .int .i64 150) (wanted_none rfl) (gx_assign rfl rfl) ?_
          simp only [Act.put, List.setIfInBounds_toArray, List.set_cons_zero, List.set_cons_succ]
          go_wp2_with fail
          go_ret
          exact ask_same HD.out (HT34.out) (Si.ask_bad3 HBAD.out HX.out (s := s) (by simpa using HS.out) (.inl h2))
        · by_cases h3 : s.2 < sm
          · go_upto_region 7 with fail
            refine wp_region_lit ?_
            refine wpList_run (v := .int .i64 0) (wanted_none rfl) (exec_move rfl rfl) ?_
            simp only [Act.put, List.setIfInBounds_toArray, List.set_cons_zero, List.set_cons_succ]
            refine wpList_run (v := .bool false) (wanted_none rfl) (ix_neq rfl rfl rfl (by decide)) ?_
            simp only [Act.put, List.setIfInBounds_toArray, List.set_cons_zero, List.set_cons_succ]
            refine wpList_run (v := .bool false) (wanted_none rfl) (exec_move rfl rfl) ?_
            simp only [Act.put, List.setIfInBounds_toArray, List.set_cons_zero, List.set_cons_succ]
            refine wpList_run (v := .int .i64 x) rfl (exec_move rfl rfl) ?_
            simp only [Act.put, List.setIfInBounds_toArray, List.set_cons_zero, List.set_cons_succ]
            refine wpList_run (v := .pointer (some ⟨y, 0, none⟩)) rfl (exec_field (off := 0) (d := 0) rfl rfl (by kernel_rfl)) ?_
            simp only [Act.put, List.setIfInBounds_toArray, List.set_cons_zero, List.set_cons_succ]
            refine wpList_run (v := .int .i64 s.1) rfl (exec_load1 rfl rfl (by kernel_rfl) (HBy4.out.cell 0)) ?_
            simp only [Act.put, List.setIfInBounds_toArray, List.set_cons_zero, List.set_cons_succ]
            refine wpList_run (v := .bool false) rfl (ix_gtr rfl rfl rfl (decide_eq_false h2)) ?_
            simp only [Act.put, List.setIfInBounds_toArray, List.set_cons_zero, List.set_cons_succ]
            refine wpList_run (v := .bool false) (wanted_none rfl) (ix_pickF rfl rfl rfl) ?_
            simp only [Act.put, List.setIfInBounds_toArray, List.set_cons_zero, List.set_cons_succ]
            refine wpList_run (v := .bool false) (wanted_none rfl) (exec_move rfl rfl) ?_
            simp only [Act.put, List.setIfInBounds_toArray, List.set_cons_zero, List.set_cons_succ]
            refine wpList_run (v := .int .i64 sm) rfl (exec_move rfl rfl) ?_
            simp only [Act.put, List.setIfInBounds_toArray, List.set_cons_zero, List.set_cons_succ]
            refine wpList_run (v := .pointer (some ⟨y, 1, none⟩)) rfl (exec_field (off := 0) (d := 1) rfl rfl (by kernel_rfl)) ?_
            simp only [Act.put, List.setIfInBounds_toArray, List.set_cons_zero, List.set_cons_succ]
            refine wpList_run (v := .int .i64 s.2) rfl (exec_load1 rfl rfl (by kernel_rfl) (HBy4.out.cell 1)) ?_
            simp only [Act.put, List.setIfInBounds_toArray, List.set_cons_zero, List.set_cons_succ]
            refine wpList_run (v := .bool true) rfl (ix_gtr rfl rfl rfl (decide_eq_true h3)) ?_
            simp only [Act.put, List.setIfInBounds_toArray, List.set_cons_zero, List.set_cons_succ]
            refine wpList_run (v := .bool true) (wanted_none rfl) (ix_pickF rfl rfl rfl) ?_
            simp only [Act.put, List.setIfInBounds_toArray, List.set_cons_zero, List.set_cons_succ]
            go_upto_region 8 with fail
            refine wp_region_lit ?_
            refine wpList_run (v := .int .i64 150) (wanted_none rfl) (gx_assign rfl rfl) ?_
            simp only [Act.put, List.setIfInBounds_toArray, List.set_cons_zero, List.set_cons_succ]
            go_wp2_with fail
            go_ret
            exact ask_same HD.out (HT34.out) (Si.ask_bad3 HBAD.out HX.out (s := s) (by simpa using HS.out) (.inr (by rw [← HHD.out, ← HSM.out]; exact h3)))
          · have HOKS := Lib.hid (show Si.okA sm from by
              have h1 := (HD.out.okl s (List.mem_of_getElem? HS.out)).2.2
              rw [HSM.out] at h3 ⊢
              exact ⟨by omega, by omega⟩)
            have HASK := Lib.hid (Si.ask_ok (h := h) (c := ((i : Int), pan)) HBAD.out HX.out (s := s) (by simpa using HS.out) (by rw [← HHD.out, ← HSM.out]; omega))
            go_upto_region 7 with fail
            refine wp_region_lit ?_
            refine wpList_run (v := .int .i64 0) (wanted_none rfl) (exec_move rfl rfl) ?_
            simp only [Act.put, List.setIfInBounds_toArray, List.set_cons_zero, List.set_cons_succ]
            refine wpList_run (v := .bool false) (wanted_none rfl) (ix_neq rfl rfl rfl (by decide)) ?_
            simp only [Act.put, List.setIfInBounds_toArray, List.set_cons_zero, List.set_cons_succ]
            refine wpList_run (v := .bool false) (wanted_none rfl) (exec_move rfl rfl) ?_
            simp only [Act.put, List.setIfInBounds_toArray, List.set_cons_zero, List.set_cons_succ]
            refine wpList_run (v := .int .i64 x) rfl (exec_move rfl rfl) ?_
            simp only [Act.put, List.setIfInBounds_toArray, List.set_cons_zero, List.set_cons_succ]
            refine wpList_run (v := .pointer (some ⟨y, 0, none⟩)) rfl (exec_field (off := 0) (d := 0) rfl rfl (by kernel_rfl)) ?_
            simp only [Act.put, List.setIfInBounds_toArray, List.set_cons_zero, List.set_cons_succ]
            refine wpList_run (v := .int .i64 s.1) rfl (exec_load1 rfl rfl (by kernel_rfl) (HBy4.out.cell 0)) ?_
            simp only [Act.put, List.setIfInBounds_toArray, List.set_cons_zero, List.set_cons_succ]
            refine wpList_run (v := .bool false) rfl (ix_gtr rfl rfl rfl (decide_eq_false h2)) ?_
            simp only [Act.put, List.setIfInBounds_toArray, List.set_cons_zero, List.set_cons_succ]
            refine wpList_run (v := .bool false) (wanted_none rfl) (ix_pickF rfl rfl rfl) ?_
            simp only [Act.put, List.setIfInBounds_toArray, List.set_cons_zero, List.set_cons_succ]
            refine wpList_run (v := .bool false) (wanted_none rfl) (exec_move rfl rfl) ?_
            simp only [Act.put, List.setIfInBounds_toArray, List.set_cons_zero, List.set_cons_succ]
            refine wpList_run (v := .int .i64 sm) rfl (exec_move rfl rfl) ?_
            simp only [Act.put, List.setIfInBounds_toArray, List.set_cons_zero, List.set_cons_succ]
            refine wpList_run (v := .pointer (some ⟨y, 1, none⟩)) rfl (exec_field (off := 0) (d := 1) rfl rfl (by kernel_rfl)) ?_
            simp only [Act.put, List.setIfInBounds_toArray, List.set_cons_zero, List.set_cons_succ]
            refine wpList_run (v := .int .i64 s.2) rfl (exec_load1 rfl rfl (by kernel_rfl) (HBy4.out.cell 1)) ?_
            simp only [Act.put, List.setIfInBounds_toArray, List.set_cons_zero, List.set_cons_succ]
            refine wpList_run (v := .bool false) rfl (ix_gtr rfl rfl rfl (decide_eq_false h3)) ?_
            simp only [Act.put, List.setIfInBounds_toArray, List.set_cons_zero, List.set_cons_succ]
            refine wpList_run (v := .bool false) (wanted_none rfl) (ix_pickF rfl rfl rfl) ?_
            simp only [Act.put, List.setIfInBounds_toArray, List.set_cons_zero, List.set_cons_succ]
            clear h2 h3
            by_cases h4 : 0 < x
            · go_upto_region 9 with fail
              refine wp_region_lit ?_
              refine wpList_run (v := .int .i64 x) (wanted_none rfl) (exec_move rfl rfl) ?_
              simp only [Act.put, List.setIfInBounds_toArray, List.set_cons_zero, List.set_cons_succ]
              refine wpList_run (v := .bool true) (wanted_none rfl) (ix_gtr rfl rfl rfl (decide_eq_true h4)) ?_
              simp only [Act.put, List.setIfInBounds_toArray, List.set_cons_zero, List.set_cons_succ]
              have HB4 := Lib.hid (HB.out.turn HT34.out fun e => e)
              go_upto_region 10 with fail
              refine wp_region_alw (fun W => Blk W a 49 #[.slice (some ⟨g, 0, none⟩) n2 q, .map (some b)]) (by kernel_rfl) ?_
              have hS0 : Blk w4.drew a 49 #[.slice (some ⟨g, 0, none⟩) n2 q, .map (some b)] := HB4.out
              have HTd := Lib.hid (HT34.out.drew)
              have HDd := Lib.hid (HD4.out.still (Turn.refl nowhere w4).drew)
              generalize w4.drew = wd at *
              refine alw_take (i := 0) (v := .pointer (some ⟨a, 0, none⟩)) rfl (by kernel_rfl) (by kernel_rfl) (fun _ _ _ h => h) (.inl ⟨by rfl, fun W hW => exec_move rfl rfl⟩) hS0 ?_
              simp only [Act.put, List.setIfInBounds_toArray, List.set_cons_zero, List.set_cons_succ]
              refine alw_take (i := 1) (v := .pointer (some ⟨a, 0, none⟩)) rfl (by kernel_rfl) (by kernel_rfl) (fun _ _ _ h => h) (.inl ⟨by rfl, fun W hW => exec_nil rfl rfl⟩) hS0 ?_
              simp only [Act.put, List.setIfInBounds_toArray, List.set_cons_zero, List.set_cons_succ]
              refine alw_take (i := 2) (v := .pointer (some ⟨a, 1, none⟩)) rfl (by kernel_rfl) (by kernel_rfl) (fun _ _ _ h => h) (.inl ⟨by rfl, fun W hW => exec_field (off := 0) (d := 1) rfl rfl (by kernel_rfl)⟩) hS0 ?_
              simp only [Act.put, List.setIfInBounds_toArray, List.set_cons_zero, List.set_cons_succ]
              refine alw_take (i := 3) (v := .map (some b)) rfl (by kernel_rfl) (by kernel_rfl) (fun _ _ _ h => h) (.inl ⟨by rfl, fun W hW => exec_load1 rfl rfl (by kernel_rfl) (hW.cell 1)⟩) hS0 ?_
              simp only [Act.put, List.setIfInBounds_toArray, List.set_cons_zero, List.set_cons_succ]
              refine alw_take (i := 4) (v := .int .i64 (i : Int)) rfl (by kernel_rfl) (by kernel_rfl) (fun _ _ _ h => h) (.inl ⟨by rfl, fun W hW => exec_move rfl rfl⟩) hS0 ?_
              simp only [Act.put, List.setIfInBounds_toArray, List.set_cons_zero, List.set_cons_succ]
              refine alw_take (i := 5) (v := strV pan) rfl (by kernel_rfl) (by kernel_rfl) (fun _ _ _ h => h) (.inl ⟨by rfl, fun W hW => exec_move rfl rfl⟩) hS0 ?_
              simp only [Act.put, List.setIfInBounds_toArray, List.set_cons_zero, List.set_cons_succ]
              refine alw_take (i := 8) (v := .int .i64 sm) rfl (by kernel_rfl) (by kernel_rfl) (fun _ _ _ h => h) (.inl ⟨by rfl, fun W hW => exec_move rfl rfl⟩) hS0 ?_
              simp only [Act.put, List.setIfInBounds_toArray, List.set_cons_zero, List.set_cons_succ]
              have HBd := Lib.hid hS0
              clear hS0
              refine alw_step (i := 6) (by kernel_rfl) rfl rfl ?_
              intro K1 HK1
              go_wp2_with fail
              refine (cloneT_walk pan wd HPL.out).mono ?_
              rintro e w6 ⟨rfl, ht⟩
              have HT6 := Lib.hid ht
              clear ht
              refine HK1.out _ _ ⟨HBd.out.turn HT6.out (fun e => e), ?_⟩
              clear HK1
              try simp only [Act.put, List.setIfInBounds_toArray, List.set_cons_zero, List.set_cons_succ]
              have hS0 := HBd.out.turn HT6.out (fun e => e)
              obtain ⟨w7, hrun, hd7, ht7⟩ := (HDd.out.still HT6.out).put HN.out ⟨((i : Int), pan), HC.out⟩ HOKS.out
              have HRUN := Lib.hid hrun
              have HFIN := Lib.hid (show AskQ w a b l n h ((i : Int), pan) x (.returned (.int .i64 0)) w7 from ⟨by rw [HASK.out.1], by rw [HASK.out.2, ← HHD.out, ← HSM.out]; exact hd7, ((HTd.out.trans HT6.out fun _ _ e => e).mono (fun k _ e => e.elim)).trans ht7 fun _ _ e => e⟩)
              have HBZ := Lib.hid (show Blk w7 a 49 #[.slice (some ⟨g, 0, none⟩) n2 q, .map (some b)] from (HBd.out.turn HT6.out (fun e => e)).turn ht7 fun e => by
  have e : a = b := e
  have hh := HDd.out.siw
  rw [← e] at hh
  exact siw_blk HBd.out (by decide) hh)
              clear hrun hd7 ht7
              refine alw_take (i := 7) (v := cardV ((i : Int), pan)) rfl (by kernel_rfl) (by kernel_rfl) (fun _ _ _ h => h) (.inl ⟨by rfl, fun W hW => gx_build2 rfl rfl rfl (build_card ((i : Int), pan) _)⟩) hS0 ?_
              simp only [Act.put, List.setIfInBounds_toArray, List.set_cons_zero, List.set_cons_succ]
              refine alw_step (i := 9) (by kernel_rfl) rfl rfl ?_
              intro K1 HK1
              refine wp_mapUpdate (.tmp 61) (.tmp 65) (.tmp 66) _ rfl rfl rfl rfl HRUN.out ?_
              refine HK1.out _ _ ⟨HBZ.out, ?_⟩
              clear HK1
              try simp only [Act.put, List.setIfInBounds_toArray, List.set_cons_zero, List.set_cons_succ]
              refine alw_done rfl ?_
              refine NoPanic.normal ?_
              clear hS0
              try simp only [Act.put, List.setIfInBounds_toArray, List.set_cons_zero, List.set_cons_succ]
              go_upto_region 11 with fail
              refine wp_region_lit ?_
              refine wpList_run (v := .int .i64 0) (wanted_none rfl) (gx_assign rfl rfl) ?_
              simp only [Act.put, List.setIfInBounds_toArray, List.set_cons_zero, List.set_cons_succ]
              go_wp2_with fail
              go_ret
              exact HFIN.out
            · have HFIN := Lib.hid (show Si.askE l h ((i : Int), pan) x = 0 ∧ Si.askH l h ((i : Int), pan) x = h from ⟨HASK.out.1, by
                rw [HASK.out.2, show x = 0 from by omega, Int.add_zero]
                exact Si.put_same h _⟩)
              go_upto_region 9 with fail
              refine wp_region_lit ?_
              refine wpList_run (v := .int .i64 x) (wanted_none rfl) (exec_move rfl rfl) ?_
              simp only [Act.put, List.setIfInBounds_toArray, List.set_cons_zero, List.set_cons_succ]
              refine wpList_run (v := .bool false) (wanted_none rfl) (ix_gtr rfl rfl rfl (decide_eq_false h4)) ?_
              simp only [Act.put, List.setIfInBounds_toArray, List.set_cons_zero, List.set_cons_succ]
              go_upto_region 11 with fail
              refine wp_region_lit ?_
              refine wpList_run (v := .int .i64 0) (wanted_none rfl) (gx_assign rfl rfl) ?_
              simp only [Act.put, List.setIfInBounds_toArray, List.set_cons_zero, List.set_cons_succ]
              go_wp2_with fail
              go_ret
              exact ask_same HD.out (HT34.out) (HFIN.out)
      · have HX := Lib.hid hx
        clear hx
        go_upto_region 3 with fail
        refine wp_region_lit ?_
        refine wpList_run (v := .int .i64 x) (wanted_none rfl) (exec_move rfl rfl) ?_
        simp only [Act.put, List.setIfInBounds_toArray, List.set_cons_zero, List.set_cons_succ]
        refine wpList_op (wanted_none rfl) fun K9 HK9 => ?_
        go_wp2_with fail
        refine (isA_no w HX.out).mono ?_
        rintro e w ⟨rfl, rfl⟩
        refine HK9.out _ _ ?_
        clear HK9
        try simp only [Act.put, List.setIfInBounds_toArray, List.set_cons_zero, List.set_cons_succ]
        refine wpList_run (v := .bool true) (wanted_none rfl) (ix_not (b := false) rfl rfl) ?_
        simp only [Act.put, List.setIfInBounds_toArray, List.set_cons_zero, List.set_cons_succ]
        go_upto_region 4 with fail
        refine wp_region_lit ?_
        refine wpList_run (v := .int .i64 100) (wanted_none rfl) (gx_assign rfl rfl) ?_
        simp only [Act.put, List.setIfInBounds_toArray, List.set_cons_zero, List.set_cons_succ]
        go_wp2_with fail
        go_ret
        exact ask_same HD.out (Turn.refl _ _) (Si.ask_bad2 HBAD.out HX.out)
end Go.Proofs.Ytenflpbmjahbgaa
