/-
  Texts in one file: WlN. Conditions: the tables and the errors read as the program's text lays them.
-/
import Derived.Test.YtelipeoilcepbaaDoorWp0
import Derived.Test.YtelipeoilcepbaaDoorWp8
namespace Go.Proofs.YtelipeoilcepbaaDoor
open Go.RowKit
open Wl (B8)
set_option linter.unusedVariables false
set_option linter.unusedSimpArgs false
set_option maxRecDepth 20000
open Wl (cutRecs lens)
theorem sx_hm {a : Act} {o : Oper} {W : World} {x z u : Operand} {A : Option Addr} {n c j : Nat} (hj : j ≤ n) (hm : n ≤ c) (ho : o.op = .slice 38 x none (some z) (some u)) (hx : a.eval x = .slice A n c) (hz : a.eval z = .int .i64 (j : Int)) (hu : a.eval u = .int .i64 (j : Int)) :
    (execOp a.eval o).run Tryd.prog W = .ok (.value (.slice A j j)) W := by
  obtain ⟨i0, hi1, hi2⟩ := Option.map_eq_some_iff.1 size_u8
  have hu8 := Tryd.underlying38
  refine exec_slice ho hx rfl (congrArg some hz) (congrArg some hu) ?_
  have b2 : (0 : Int) ≤ (j : Int) ∧ (j : Int) ≤ (j : Int) := ⟨by omega, by omega⟩
  have b3 : (0 : Int) ≤ (j : Int) ∧ (j : Int) ≤ (c : Int) := ⟨by omega, by omega⟩
  have hjc : j ≤ c := by omega
  simp [Instr.sliceAt, Instr.slice, Instr.sliceBounds, Instr.sliceBound, asIntOf, run_underlying hu8, sizeOf, typeInfo, hi1, hi2, b2, b3, hjc, Result.andThen]
  cases A <;> simp [Addr.add]
theorem bs_drop' {w : World} {b off n : Nat} {bs : B8} (h : Bs w (some ⟨b, off, none⟩) n bs) {i c : Nat} (hi : i ≤ n) (hc : n ≤ c) : Bs w (some ⟨b, if c = i then off else off + i, none⟩) (n - i) (bs.drop i) := by
  by_cases e : c = i
  · have hn : n - i = 0 := by omega
    rw [hn, show bs.drop i = [] from List.drop_eq_nil_of_le (by have := h.1; omega)]
    exact bs_nil _ _
  · rw [if_neg e]
    have := bs_sub h (i := i) (k := n - i) (by omega)
    rwa [List.take_of_length_le (by rw [List.length_drop, h.1]; omega)] at this
theorem bs_take {w : World} {A : Option Addr} {n : Nat} {bs : B8} (h : Bs w A n bs) {j : Nat} (hj : j ≤ n) : Bs w A j (bs.take j) := by
  refine ⟨by rw [List.length_take, h.1]; omega, by have := h.2.1; omega, fun hp => ?_⟩
  obtain ⟨b, off, e, hc⟩ := h.2.2 (by omega)
  refine ⟨b, off, e, fun i hi => ?_⟩
  rw [hc i (by omega)]
  congr 3
  rw [List.getD_eq_getElem?_getD, List.getD_eq_getElem?_getD, List.getElem?_take, if_pos hi]
theorem lens_len (k : Nat) (t : B8) : (lens k t).length = k := by simp [lens]
theorem lens_get {k i : Nat} {t : B8} (h : i < k) : (lens k t).drop i = Wl.num ((t.drop (2 * i)).take 2) :: (lens k t).drop (i + 1) := by
  rw [List.drop_eq_getElem_cons (by rw [lens_len]; exact h)]
  congr 1
  simp [lens]
def Firsts (w : World) (g b0 n i : Nat) (ls : List B8) : Prop :=
  ∃ cs : Array Value, Blk w g 38 cs ∧ cs.size = n ∧ ls.length = i ∧ ∀ (j : Nat) (l : B8), ls[j]? = some l → ∃ a m, cs[j]? = some (Value.slice (some ⟨b0, a, none⟩) m m) ∧ Bs w (some ⟨b0, a, none⟩) m l ∧ m ≤ 1048576
theorem Firsts.still {w w' : World} {g b0 n i : Nat} {ls : List B8} (h : Firsts w g b0 n i ls) (ht : Turn nowhere w w') : Firsts w' g b0 n i ls := by
  obtain ⟨cs, h1, h2, h3, h4⟩ := h
  exact ⟨cs, h1.turn ht (fun e => e), h2, h3, fun j l hj => by obtain ⟨a, m, q1, q2, q3⟩ := h4 j l hj; exact ⟨a, m, q1, q2.still ht, q3⟩⟩
theorem bs_only {w w' : World} {g b off n : Nat} {bs : B8} (h : Bs w (some ⟨b, off, none⟩) n bs) (ht : Turn (only g) w w') (hne : b ≠ g) : Bs w' (some ⟨b, off, none⟩) n bs := h.turn ht fun b' o' _ e hb => by
  injection e with e
  injection e with e1 e2
  have hb : b' = g := hb
  exact hne (e1.trans hb)
theorem firsts_store {w w' : World} {g b0 n i o m : Nat} {ls : List B8} {l : B8} {cs : Array Value} (hsz : cs.size = n) (hl : ls.length = i)
    (hcs : ∀ (j : Nat) (l : B8), ls[j]? = some l → ∃ a m, cs[j]? = some (Value.slice (some ⟨b0, a, none⟩) m m) ∧ Bs w (some ⟨b0, a, none⟩) m l ∧ m ≤ 1048576)
    (hne : b0 ≠ g) (ht : Turn (only g) w w') (hb : Blk w' g 38 (cs.setIfInBounds i (.slice (some ⟨b0, o, none⟩) m m))) (hi : i < n) (hbm : Bs w (some ⟨b0, o, none⟩) m l) (hm : m ≤ 1048576) : Firsts w' g b0 n (i + 1) (ls ++ [l]) := by
  refine ⟨_, hb, by simp [hsz], by simp [hl], fun j k hj => ?_⟩
  rw [Array.getElem?_setIfInBounds]
  by_cases e : i = j
  · subst e
    rw [if_pos rfl, if_pos (by omega)]
    rw [List.getElem?_append_right (by omega), hl, Nat.sub_self] at hj
    simp at hj
    subst hj
    exact ⟨o, m, rfl, bs_only hbm ht hne, hm⟩
  · rw [if_neg e]
    have hlt : j < ls.length := by
      have := (List.getElem?_eq_some_iff.1 hj).1
      simp at this
      omega
    rw [List.getElem?_append_left hlt] at hj
    obtain ⟨a', m', q1, q2, q3⟩ := hcs j k hj
    exact ⟨a', m', q1, bs_only q2 ht hne, q3⟩
def UnpackP (w : World) (A : Option Addr) (s : Wl.Stamp) (t : B8) (r : Ending) (w' : World) : Prop :=
  Turn nowhere w w' ∧ ((Wl.unpack Crc.sumN s t = none ∧ r = .returned (.tuple #[.slice none 0 0, .bool false])) ∨
    ∃ l g, Wl.unpack Crc.sumN s t = some l ∧ r = .returned (.tuple #[.slice (some ⟨g, 0, none⟩) l.length l.length, .bool true]) ∧ Ls w' (some ⟨g, 0, none⟩) l.length l ∧ w.heap.size ≤ g ∧ ∃ b0 o0, A = some ⟨b0, o0, none⟩ ∧ Firsts w' g b0 l.length l.length l)
theorem u_short {s : Wl.Stamp} {t : B8} (h : t.length < 40) : Wl.unpack Crc.sumN s t = none := by unfold Wl.unpack; rw [if_pos (.inl h)]
theorem u_sum {s : Wl.Stamp} {t : B8} (h : s.sum ≠ Crc.sumN t) : Wl.unpack Crc.sumN s t = none := by unfold Wl.unpack; rw [if_pos (.inr h)]
theorem u_few {s : Wl.Stamp} {t : B8} (h : (t.drop 1).length < 2 * (t.getD 0 0).toNat) : Wl.unpack Crc.sumN s t = none := by
  unfold Wl.unpack
  by_cases h1 : t.length < 40 ∨ s.sum ≠ Crc.sumN t
  · rw [if_pos h1]
  · rw [if_neg h1, if_pos h]
theorem u_main {s : Wl.Stamp} {t : B8} (h1 : ¬ t.length < 40) (h2 : s.sum = Crc.sumN t) (h3 : ¬ (t.drop 1).length < 2 * (t.getD 0 0).toNat) : Wl.unpack Crc.sumN s t = cutRecs (lens (t.getD 0 0).toNat (t.drop 1)) ((t.drop 1).drop (2 * (t.getD 0 0).toNat)) := by
  unfold Wl.unpack
  rw [if_neg (by rintro (h | h); exact h1 h; exact h h2), if_neg h3, List.drop_drop]
theorem cut_step {n : Nat} {ns : List Nat} {r : B8} (h : n ≤ r.length) (done : List B8) : (cutRecs (n :: ns) r).map (done ++ ·) = (cutRecs ns (r.drop n)).map ((done ++ [r.take n]) ++ ·) := by
  rw [cutRecs, if_neg (by omega), Option.map_map]
  congr 1
  funext x
  simp
theorem cut_fail {n : Nat} {ns : List Nat} {r : B8} (h : r.length < n) (done : List B8) : (cutRecs (n :: ns) r).map (done ++ ·) = none := by
  rw [cutRecs, if_pos h]; rfl
theorem elmSl : Elm Tryd.prog 33 38 1 24 (.slice none 0 0) := ⟨Tryd.underlying33, by kernel_rfl, rfl, by decide, by decide⟩
theorem tab_still {w w' : World} (h : Tab w) (ht : Turn nowhere w w') : Tab w' := fun k hk => by
  have := h k hk
  rw [ht.cell (World.block_lt_of_cell? _ _ this) (fun e => e)]
  exact this
set_option maxRecDepth 20000 in
set_option maxHeartbeats 4000000 in
theorem unpack_walk (w : World) (s : Wl.Stamp) (A : Option Addr) (n c : Nat) (t : B8) (hb : Bs w A n t) (hc : n ≤ c) (hn : n ≤ 100000) (hA : A = none → c = 0) (htab : Tab w) :
    Calls Tryd.prog 42 #[.agg (stA s), .slice A n c] w fun r w' => UnpackP w A s t r w' := by
  have HB := Lib.hid hb
  have HLEN := Lib.hid hb.1
  have HTAB := Lib.hid htab
  clear hb htab
  go_enter Tryd.func42, Tryd.ntmps42
  go_upto_region 0 with fail
  refine wp_region_lit ?_
  refine wpList_run (v := .pointer (some ⟨(w).heap.size, 0, none⟩)) (w' := (w).alloc (.cells (stA s) 67)) (wanted_none rfl) (gx_box rfl rfl (box_st s _)) ?_;simp only [zz];refine nR (.slice none 0 0) (gx_assign rfl rfl) ?_;simp only [zz];refine nR (.bool false) (gx_assign rfl rfl) ?_;simp only [zz]
  have hb_p := Blk.new (w) 67 (stA s)
  have ht_ := (Turn.refl nowhere (w)).alloc (.cells (stA s) 67)
  obtain ⟨n0_, hn0_⟩ : ∃ n, n = (w).heap.size := ⟨_, rfl⟩
  have hz_p : (w).heap.size = n0_ + 0 := by rw [hn0_]; simp
  obtain ⟨p, hg_⟩ : ∃ g, g = (w).heap.size := ⟨_, rfl⟩
  rw [← hg_] at hb_p hz_p ⊢
  clear hg_
  generalize (w).alloc (.cells (stA s) 67) = w1 at *
  have HT1 := Lib.hid ht_
  clear ht_
  have HBp := Lib.hid hb_p
  have HLp := Lib.hid (show (w).heap.size ≤ p from by omega)
  clear hb_p
  clear hn0_ hz_p
  clear n0_
  by_cases h40 : n < 40
  · go_upto_region 1 with fail
    refine wp_region_alw (fun W => Blk W p 67 (stA s)) (by kernel_rfl) ?_
    have hS0 : (fun W => Blk W p 67 (stA s)) w1.drew := HBp.out.drew
    have HD := Lib.hid ((Turn.refl nowhere w1).drew)
    generalize w1.drew = wd at *
    refine alw_take (i := 0) (v := .slice A n c) rfl (by kernel_rfl) (by kernel_rfl) (fun _ _ _ h => h) (.inl ⟨by rfl, fun W hW => exec_move rfl rfl⟩) hS0 ?_
    simp only [zz]
    refine alw_take (i := 1) (v := .int .i64 (n : Int)) rfl (by kernel_rfl) (by kernel_rfl) (fun _ _ _ h => h) (.inl ⟨by rfl, fun W hW => gx_len rfl rfl Tryd.underlying38⟩) hS0 ?_
    simp only [zz]
    refine alw_take (i := 2) (v := .bool true) rfl (by kernel_rfl) (by kernel_rfl) (fun _ _ _ h => h) (.inl ⟨by rfl, fun W hW => ix_lss rfl rfl rfl (decide_eq_true (by omega))⟩) hS0 ?_
    simp only [zz]
    refine alw_take (i := 3) (v := .bool true) rfl (by kernel_rfl) (by kernel_rfl) (fun _ _ _ h => h) (.inl ⟨by rfl, fun W hW => exec_move rfl rfl⟩) hS0 ?_
    simp only [zz]
    refine alw_take (i := 4) (v := undef) rfl (by kernel_rfl) (by kernel_rfl) (fun _ _ _ h => h) (.inr ⟨by rfl, rfl⟩) hS0 ?_
    simp only [zz]
    refine alw_take (i := 5) (v := undef) rfl (by kernel_rfl) (by kernel_rfl) (fun _ _ _ h => h) (.inr ⟨by rfl, rfl⟩) hS0 ?_
    simp only [zz]
    refine alw_take (i := 6) (v := undef) rfl (by kernel_rfl) (by kernel_rfl) (fun _ _ _ h => h) (.inr ⟨by rfl, rfl⟩) hS0 ?_
    simp only [zz]
    refine alw_take (i := 7) (v := undef) rfl (by kernel_rfl) (by kernel_rfl) (fun _ _ _ h => h) (.inr ⟨by rfl, rfl⟩) hS0 ?_
    simp only [zz]
    refine alw_take (i := 8) (v := undef) rfl (by kernel_rfl) (by kernel_rfl) (fun _ _ _ h => h) (.inr ⟨by rfl, rfl⟩) hS0 ?_
    simp only [zz]
    refine alw_take (i := 9) (v := .bool true) rfl (by kernel_rfl) (by kernel_rfl) (fun _ _ _ h => h) (.inl ⟨by rfl, fun W hW => ix_pickT rfl rfl rfl⟩) hS0 ?_
    simp only [zz]
    refine alw_done rfl ?_
    refine NoPanic.normal ?_
    clear hS0
    try simp only [zz]
    go_upto_region 2 with fail
    refine wp_region_lit ?_
    refine nR (.slice none 0 0) (gx_assign rfl rfl) ?_;simp only [zz];refine nR (.bool false) (gx_assign rfl rfl) ?_;simp only [zz]
    go_wp2_with fail
    go_ret2
    exact ⟨HT1.out.trans HD.out fun _ _ e => e, .inl ⟨u_short (by rw [HLEN.out]; exact h40), rfl⟩⟩
  · obtain ⟨b0, o0, rfl⟩ : ∃ b0 o0, A = some ⟨b0, o0, none⟩ := by
      obtain ⟨b0, o0, e, _⟩ := HB.out.2.2 (by omega)
      exact ⟨b0, o0, e⟩
    go_upto_region 1 with fail
    refine wp_region_alw (fun W => Blk W p 67 (stA s)) (by kernel_rfl) ?_
    have hS0 : (fun W => Blk W p 67 (stA s)) w1.drew := HBp.out.drew
    have HD := Lib.hid ((Turn.refl nowhere w1).drew)
    generalize w1.drew = wd at *
    refine alw_take (i := 0) (v := .slice (some ⟨b0, o0, none⟩) n c) rfl (by kernel_rfl) (by kernel_rfl) (fun _ _ _ h => h) (.inl ⟨by rfl, fun W hW => exec_move rfl rfl⟩) hS0 ?_
    simp only [zz]
    refine alw_take (i := 1) (v := .int .i64 (n : Int)) rfl (by kernel_rfl) (by kernel_rfl) (fun _ _ _ h => h) (.inl ⟨by rfl, fun W hW => gx_len rfl rfl Tryd.underlying38⟩) hS0 ?_
    simp only [zz]
    refine alw_take (i := 2) (v := .bool false) rfl (by kernel_rfl) (by kernel_rfl) (fun _ _ _ h => h) (.inl ⟨by rfl, fun W hW => ix_lss rfl rfl rfl (decide_eq_false (by omega))⟩) hS0 ?_
    simp only [zz]
    refine alw_take (i := 3) (v := .bool false) rfl (by kernel_rfl) (by kernel_rfl) (fun _ _ _ h => h) (.inl ⟨by rfl, fun W hW => exec_move rfl rfl⟩) hS0 ?_
    simp only [zz]
    refine alw_take (i := 4) (v := .pointer (some ⟨p, 3, none⟩)) rfl (by kernel_rfl) (by kernel_rfl) (fun _ _ _ h => h) (.inl ⟨by rfl, fun W hW => exec_field (off := 0) (d := 3) rfl rfl (by kernel_rfl)⟩) hS0 ?_
    simp only [zz]
    refine alw_take (i := 5) (v := .int .i64 (s.sum : Int)) rfl (by kernel_rfl) (by kernel_rfl) (fun _ _ _ h => h) (.inl ⟨by rfl, fun W hW => exec_load1 rfl rfl (by kernel_rfl) (hW.cell 3)⟩) hS0 ?_
    simp only [zz]
    refine alw_take (i := 6) (v := .slice (some ⟨b0, o0, none⟩) n c) rfl (by kernel_rfl) (by kernel_rfl) (fun _ _ _ h => h) (.inl ⟨by rfl, fun W hW => exec_move rfl rfl⟩) hS0 ?_
    simp only [zz]
    refine alw_step (i := 7) (by kernel_rfl) rfl rfl ?_
    intro K1 HK1
    go_wp2_with fail
    refine (sumOf_walk wd _ n c t ((HB.out.still HT1.out).still HD.out) (tab_still HTAB.out (HT1.out.trans HD.out fun _ _ e => e))).mono ?_
    rintro e w2 ⟨rfl, ht⟩
    have hS1 := hS0.turn ht (fun e => e)
    have HT2 := Lib.hid ((HT1.out.trans HD.out fun _ _ e => e).trans ht fun _ _ e => e)
    refine HK1.out _ _ ⟨hS0.turn ht (fun e => e), ?_⟩
    clear HK1
    try simp only [zz]
    refine alw_take (i := 8) (v := .bool (decide (s.sum ≠ Crc.sumN t))) rfl (by kernel_rfl) (by kernel_rfl) (fun _ _ _ h => h) (.inl ⟨by rfl, fun W hW => ix_neq rfl rfl rfl (by rw [Bool.eq_iff_iff]; simp only [decide_eq_true_eq]; omega)⟩) hS1 ?_
    simp only [zz]
    refine alw_take (i := 9) (v := .bool (decide (s.sum ≠ Crc.sumN t))) rfl (by kernel_rfl) (by kernel_rfl) (fun _ _ _ h => h) (.inl ⟨by rfl, fun W hW => ix_pickF rfl rfl rfl⟩) hS1 ?_
    simp only [zz]
    refine alw_done rfl ?_
    refine NoPanic.normal ?_
    clear hS0 hS1 ht HD HT1 HBp
    try simp only [zz]
    by_cases hsum : s.sum ≠ Crc.sumN t
    · rw [decide_eq_true hsum]
      go_upto_region 2 with fail
      refine wp_region_lit ?_
      refine nR (.slice none 0 0) (gx_assign rfl rfl) ?_;simp only [zz];refine nR (.bool false) (gx_assign rfl rfl) ?_;simp only [zz]
      go_wp2_with fail
      go_ret2
      exact ⟨HT2.out, .inl ⟨u_sum hsum, rfl⟩⟩
    · rw [decide_eq_false hsum]
      have HSUM := Lib.hid (Classical.not_not.1 hsum)
      clear hsum
      have hx0 : w2.cell? ⟨b0, o0, none⟩ = some (.int .u8 ((t.getD 0 0).toNat : Int)) := by
        obtain ⟨b', o', e, hcell⟩ := (HB.out.still HT2.out).2.2 (by omega)
        injection e with e
        injection e with e1 e2
        subst e1 e2
        exact hcell 0 (by omega)
      have HLS := Lib.hid (show Bs w2 (some ⟨b0, o0 + 1, none⟩) (n - 1) (t.drop 1) from by
        have := bs_drop' (HB.out.still HT2.out) (i := 1) (c := c) (by omega) hc
        rwa [if_neg (by omega)] at this)
      have HX := Lib.hid (show (t.getD 0 0).toNat < 256 from (t.getD 0 0).toNat_lt)
      have HFEW := Lib.hid (fun h => u_few (s := s) (t := t) h)
      have HMAIN := Lib.hid (fun h => u_main (s := s) (t := t) (by rw [HLEN.out]; exact h40) HSUM.out h)
      have HDL := Lib.hid (show (t.drop 1).length = n - 1 by rw [List.length_drop, HLEN.out])
      generalize hk : (t.getD 0 0).toNat = k at *
      generalize hls : t.drop 1 = ls at *
      clear hk hls
      have yk : k < 256 := HX.out
      have HX0 := Lib.hid hx0
      clear hx0
      go_upto_region 3 with fail
      refine wp_region_alw (fun W => W.cell? ⟨b0, o0, none⟩ = some (.int .u8 (k : Int))) (by kernel_rfl) ?_
      have hS0 : (fun W => W.cell? ⟨b0, o0, none⟩ = some (.int .u8 (k : Int))) w2.drew := HX0.out
      have HD := Lib.hid ((Turn.refl nowhere w2).drew)
      generalize w2.drew = we at *
      refine alw_take (i := 0) (v := .slice (some ⟨b0, o0, none⟩) n c) rfl (by kernel_rfl) (by kernel_rfl) (fun _ _ _ h => h) (.inl ⟨by rfl, fun W hW => exec_move rfl rfl⟩) hS0 ?_
      simp only [zz]
      refine alw_take (i := 1) (v := .pointer (some ⟨b0, o0, none⟩)) rfl (by kernel_rfl) (by kernel_rfl) (fun _ _ _ h => h) (.inl ⟨by rfl, fun W hW => gx_iaddr (i := 0) (sz := 1) rfl rfl rfl Tryd.underlying38 size_u8 (by omega) rfl⟩) hS0 ?_
      simp only [zz]
      refine alw_take (i := 2) (v := .int .u8 (k : Int)) rfl (by kernel_rfl) (by kernel_rfl) (fun _ _ _ h => h) (.inl ⟨by rfl, fun W hW => exec_load1 rfl rfl (by kernel_rfl) hW⟩) hS0 ?_
      simp only [zz]
      refine alw_take (i := 3) (v := .int .i64 (k : Int)) rfl (by kernel_rfl) (by kernel_rfl) (fun _ _ _ h => h) (.inl ⟨by rfl, fun W hW => ix_b2i HX.out rfl rfl⟩) hS0 ?_
      simp only [zz]
      refine alw_take (i := 4) (v := .slice (some ⟨b0, o0, none⟩) n c) rfl (by kernel_rfl) (by kernel_rfl) (fun _ _ _ h => h) (.inl ⟨by rfl, fun W hW => exec_move rfl rfl⟩) hS0 ?_
      simp only [zz]
      refine alw_take (i := 5) (v := .slice (some ⟨b0, o0 + 1, none⟩) (n - 1) (c - 1)) rfl (by kernel_rfl) (by kernel_rfl) (fun _ _ _ h => h) (.inl ⟨by rfl, fun W hW => sx_l (n := n) (c := c) (i := 1) (by omega) (by omega) rfl rfl rfl⟩) hS0 ?_
      simp only [zz]
      refine alw_take (i := 6) (v := .int .i64 (k : Int)) rfl (by kernel_rfl) (by kernel_rfl) (fun _ _ _ h => h) (.inl ⟨by rfl, fun W hW => gx_assign rfl rfl⟩) hS0 ?_
      simp only [zz]
      refine alw_take (i := 7) (v := .slice (some ⟨b0, o0 + 1, none⟩) (n - 1) (c - 1)) rfl (by kernel_rfl) (by kernel_rfl) (fun _ _ _ h => h) (.inl ⟨by rfl, fun W hW => gx_assign rfl rfl⟩) hS0 ?_
      simp only [zz]
      have HTe := Lib.hid (HT2.out.trans HD.out fun _ _ e => e)
      have HLSe := Lib.hid (HLS.out.still HD.out)
      clear HT2 HLS HD HX0
      refine alw_done rfl ?_
      refine NoPanic.normal ?_
      clear hS0
      try simp only [zz]
      by_cases hfew : n - 1 < 2 * k
      · go_upto_region 4 with fail
        refine wp_region_lit ?_
        refine nR (.slice (some ⟨b0, o0 + 1, none⟩) (n - 1) (c - 1)) (exec_move rfl rfl) ?_;simp only [zz];refine nR (.int .i64 ((n - 1 : Nat) : Int)) (gx_len rfl rfl Tryd.underlying38) ?_;simp only [zz];refine nR (.int .i64 (k : Int)) (exec_move rfl rfl) ?_;simp only [zz];refine nR (.int .i64 ((2 * k : Nat) : Int)) (ix_mul rfl rfl rfl (by omega) (by omega)) ?_;simp only [zz];refine nR (.bool true) (ix_lss rfl rfl rfl (decide_eq_true (by omega))) ?_;simp only [zz]
        go_upto_region 5 with fail
        refine wp_region_lit ?_
        refine nR (.slice none 0 0) (gx_assign rfl rfl) ?_;simp only [zz];refine nR (.bool false) (gx_assign rfl rfl) ?_;simp only [zz]
        go_wp2_with fail
        go_ret2
        exact ⟨HTe.out, .inl ⟨HFEW.out (by rw [HDL.out]; exact hfew), rfl⟩⟩
      · go_upto_region 4 with fail
        refine wp_region_lit ?_
        refine nR (.slice (some ⟨b0, o0 + 1, none⟩) (n - 1) (c - 1)) (exec_move rfl rfl) ?_;simp only [zz];refine nR (.int .i64 ((n - 1 : Nat) : Int)) (gx_len rfl rfl Tryd.underlying38) ?_;simp only [zz];refine nR (.int .i64 (k : Int)) (exec_move rfl rfl) ?_;simp only [zz];refine nR (.int .i64 ((2 * k : Nat) : Int)) (ix_mul rfl rfl rfl (by omega) (by omega)) ?_;simp only [zz];refine nR (.bool false) (ix_lss rfl rfl rfl (decide_eq_false (by omega))) ?_;simp only [zz]
        have HMN := Lib.hid (HMAIN.out (by rw [HDL.out]; exact hfew))
        have HRS := Lib.hid (bs_drop' HLSe.out (i := 2 * k) (c := c - 1) (by omega) (by omega))
        obtain ⟨r0, hr0⟩ : ∃ r, r = if c - 1 = 2 * k then o0 + 1 else o0 + 1 + 2 * k := ⟨_, rfl⟩
        rw [← hr0] at HRS
        have HR0 := Lib.hid hr0
        clear hr0 HFEW HMAIN
        go_upto_region 6 with fail
        refine wp_region_lit ?_
        refine nR (.slice (some ⟨b0, o0 + 1, none⟩) (n - 1) (c - 1)) (exec_move rfl rfl) ?_;simp only [zz];refine nR (.int .i64 (k : Int)) (exec_move rfl rfl) ?_;simp only [zz];refine nR (.int .i64 ((2 * k : Nat) : Int)) (ix_mul rfl rfl rfl (by omega) (by omega)) ?_;simp only [zz];refine nR (.slice (some ⟨b0, r0, none⟩) (n - 1 - 2 * k) (c - 1 - 2 * k)) ((sx_l' (n := n - 1) (c := c - 1) (i := 2 * k) (by omega) (by omega) rfl rfl rfl).trans (by rw [HR0.out])) ?_;simp only [zz];refine nR (.slice (some ⟨b0, r0, none⟩) (n - 1 - 2 * k) (c - 1 - 2 * k)) (gx_assign rfl rfl) ?_;simp only [zz]
        go_upto_region 7 with fail
        refine wp_region_lit ?_
        refine nR (.int .i64 (k : Int)) (exec_move rfl rfl) ?_;simp only [zz]
        obtain ⟨w3, hmk, horw, htm⟩ := orw_make (P := Tryd.prog) elmSl (fun u hu => by simp [Value.cells] at hu; subst hu; rfl) k (by omega) we
        obtain ⟨g, hg⟩ : ∃ g, g = we.heap.size := ⟨_, rfl⟩
        rw [← hg] at horw hmk
        have HGE := Lib.hid (show w.heap.size ≤ g by rw [hg]; exact HTe.out.size)
        have HNE := Lib.hid (show b0 ≠ g by obtain ⟨b', o', e, hcell⟩ := HLSe.out.2.2 (by omega); injection e with e; injection e with e1 e2; have := World.block_lt_of_cell? _ _ (hcell 0 (by omega)); simp at this; omega)
        have HT3 := Lib.hid (HTe.out.trans htm fun _ _ e => e)
        have HLS3 := Lib.hid (HLSe.out.still htm)
        have HRS3 := Lib.hid (HRS.out.still htm)
        have HF := Lib.hid (show ∃ cs, Blk w3 g 38 cs ∧ cs.size = k from by
          rcases horw.2.2 with ⟨e, _⟩ | ⟨g', cap, cur, e, _, hb, _, _, hsz, _⟩
          · cases e
          · injection e with e1 e2 e3
            injection e1 with e1
            injection e1 with e1
            subst e1
            refine ⟨cur, hb, ?_⟩
            rw [hsz, ← e3, Nat.mul_one])
        refine wpList_run (v := .slice (some ⟨g, 0, none⟩) k k) (w' := w3) (wanted_none rfl) (gx_make rfl rfl rfl hmk) ?_
        clear hmk horw htm hg HLSe HRS HTe
        try simp only [zz]
        refine nR (.slice (some ⟨g, 0, none⟩) k k) (gx_assign rfl rfl) ?_;simp only [zz]
        go_upto_region 8 with fail
        refine wp_region_lit ?_
        refine nR (.slice (some ⟨g, 0, none⟩) k k) (exec_move rfl rfl) ?_;simp only [zz];refine nR (.int .i64 (k : Int)) (gx_len rfl rfl Tryd.underlying33) ?_;simp only [zz];refine nR (.int .i64 0) (exec_move rfl rfl) ?_;simp only [zz]
        go_wp2_with fail
        go_loopg [8, 41] k (fun gk rv iv wr => ∃ (i o rl rc : Nat) (rest : B8) (dn : List B8), iv = .int .i64 (i : Int) ∧ rv = .slice (some ⟨b0, o, none⟩) rl rc ∧ i + gk = k ∧ rl ≤ rc ∧ rl ≤ 100000 ∧ Bs wr (some ⟨b0, o, none⟩) rl rest ∧ Wl.unpack Crc.sumN s t = (cutRecs ((lens k ls).drop i) rest).map (dn ++ ·) ∧ Bs wr (some ⟨b0, o0 + 1, none⟩) (n - 1) ls ∧ Firsts wr g b0 k i dn ∧ Turn nowhere w wr)
        case atStart => exact ⟨0, r0, n - 1 - 2 * k, c - 1 - 2 * k, ls.drop (2 * k), [], rfl, rfl, by omega, by omega, by omega, HRS3.out, (by rw [HMN.out, List.drop_zero]; cases cutRecs (lens k ls) (ls.drop (2 * k)) with | none => rfl | some x => rfl), HLS3.out, (by obtain ⟨cs, h1, h2⟩ := HF.out; exact ⟨cs, h1, h2, rfl, fun j l hj => by simp at hj⟩), HT3.out⟩
        obtain ⟨i, o, rl, rc, rest, dn, rfl, rfl, hgk, hrc, hrl, hrs, hun, hls, hfs, htr⟩ := hrel
        have HGK := Lib.hid hgk
        have HRC := Lib.hid hrc
        have HRS := Lib.hid hrs
        have HUN := Lib.hid hun
        have HLS := Lib.hid hls
        have HFS := Lib.hid hfs
        have HTR := Lib.hid htr
        have yi : i ≤ k := by omega
        clear hgk hrc hrs hun hls hfs htr HRS3 HLS3 HF HT3 HMN
        by_cases hlt : i < k
        · have HLT := Lib.hid hlt
          have y3 : (i : Int) < (k : Int) := by omega
          have hun := HUN.out
          rw [lens_get hlt] at hun
          obtain ⟨m, hm⟩ : ∃ m, m = Wl.num ((ls.drop (2 * i)).take 2) := ⟨_, rfl⟩
          rw [← hm] at hun
          have HM := Lib.hid hm
          have ym : m < 4294967296 := by rw [hm]; exact num_lt4 (by rw [List.length_take]; omega)
          have HUN2 := Lib.hid hun
          clear hun hm HUN
          go_upto_region 9 with fail
          refine wp_region_lit ?_
          refine nR (.bool true) (ix_lss rfl rfl rfl (decide_eq_true y3)) ?_;simp only [zz]
          go_upto_region 10 with fail
          refine wp_region_lit ?_
          refine nR (.int .i64 (i : Int)) (exec_move rfl rfl) ?_;simp only [zz];refine nR (.int .i64 (i : Int)) (gx_assign rfl rfl) ?_;simp only [zz]
          go_upto_region 11 with fail
          refine wp_region_lit ?_
          refine nR (.slice (some ⟨b0, o0 + 1, none⟩) (n - 1) (c - 1)) (exec_move rfl rfl) ?_;simp only [zz];refine nR (.int .i64 (i : Int)) (exec_move rfl rfl) ?_;simp only [zz];refine nR (.int .i64 ((2 * i : Nat) : Int)) (ix_mul rfl rfl rfl (by omega) (by omega)) ?_;simp only [zz];refine nR (.int .i64 (i : Int)) (exec_move rfl rfl) ?_;simp only [zz];refine nR (.int .i64 ((i + 1 : Nat) : Int)) (ix_add rfl rfl rfl (by omega) (by omega)) ?_;simp only [zz];refine nR (.int .i64 ((2 * (i + 1) : Nat) : Int)) (ix_mul rfl rfl rfl (by omega) (by omega)) ?_;simp only [zz];refine nR (.slice (some ⟨b0, o0 + 1 + 2 * i, none⟩) 2 (c - 1 - 2 * i)) ((sx_lh (n := n - 1) (c := c - 1) (i := 2 * i) (j := 2 * (i + 1)) (by omega) (by omega) (by omega) rfl rfl rfl rfl).trans (by rw [show 2 * (i + 1) - 2 * i = 2 by omega])) ?_;simp only [zz]
          refine wpList_op rfl fun K9 HK9 => ?_
          go_wp2_with fail
          refine (number_walk wr _ 2 (c - 1 - 2 * i) ((ls.drop (2 * i)).take 2) (bs_sub HLS.out (by omega)) (by decide)).mono ?_
          rintro e w5 ⟨rfl, ht⟩
          refine HK9.out _ _ ?_
          clear HK9
          try simp only [zz]
          rw [← HM.out]
          have HRS5 := Lib.hid (HRS.out.still ht)
          have HLS5 := Lib.hid (HLS.out.still ht)
          have HFS5 := Lib.hid (HFS.out.still ht)
          have HT5 := Lib.hid (HTR.out.trans ht fun _ _ e => e)
          clear ht HRS HLS HFS HTR
          refine nR (.int .i64 (m : Int)) (gx_assign rfl rfl) ?_;simp only [zz]
          by_cases hgt : rl < m
          · go_upto_region 12 with fail
            refine wp_region_lit ?_
            refine nR (.int .i64 (m : Int)) (exec_move rfl rfl) ?_;simp only [zz];refine nR (.slice (some ⟨b0, o, none⟩) rl rc) (exec_move rfl rfl) ?_;simp only [zz];refine nR (.int .i64 (rl : Int)) (gx_len rfl rfl Tryd.underlying38) ?_;simp only [zz];refine nR (.bool true) (ix_gtr rfl rfl rfl (decide_eq_true (by omega))) ?_;simp only [zz]
            go_upto_region 13 with fail
            refine wp_region_lit ?_
            refine nR (.slice none 0 0) (gx_assign rfl rfl) ?_;simp only [zz];refine nR (.bool false) (gx_assign rfl rfl) ?_;simp only [zz]
            go_wp2_with fail
            go_ret2
            exact ⟨HT5.out, .inl ⟨HUN2.out.trans (cut_fail (by rw [HRS5.out.1]; exact hgt) dn), rfl⟩⟩
          · go_upto_region 12 with fail
            refine wp_region_lit ?_
            refine nR (.int .i64 (m : Int)) (exec_move rfl rfl) ?_;simp only [zz];refine nR (.slice (some ⟨b0, o, none⟩) rl rc) (exec_move rfl rfl) ?_;simp only [zz];refine nR (.int .i64 (rl : Int)) (gx_len rfl rfl Tryd.underlying38) ?_;simp only [zz];refine nR (.bool false) (ix_gtr rfl rfl rfl (decide_eq_false (by omega))) ?_;simp only [zz]
            have HUN3 := Lib.hid (HUN2.out.trans (cut_step (by rw [HRS5.out.1]; omega) dn))
            clear HUN2
            go_upto_region 14 with fail
            refine wp_region_lit ?_
            refine nR (.slice (some ⟨g, 0, none⟩) k k) (exec_move rfl rfl) ?_;simp only [zz];refine nR (.int .i64 (i : Int)) (exec_move rfl rfl) ?_;simp only [zz];refine nR (.slice (some ⟨b0, o, none⟩) rl rc) (exec_move rfl rfl) ?_;simp only [zz];refine nR (.int .i64 (m : Int)) (exec_move rfl rfl) ?_;simp only [zz];refine nR (.int .i64 (m : Int)) (exec_move rfl rfl) ?_;simp only [zz];refine nR (.slice (some ⟨b0, o, none⟩) m m) (sx_hm (n := rl) (c := rc) (by omega) HRC.out rfl rfl rfl rfl) ?_;simp only [zz];refine nR (.pointer (some ⟨g, 0 + i * 1, none⟩)) (gx_iaddr (i := i) (sz := 1) rfl rfl rfl Tryd.underlying33 size_sl HLT.out rfl) ?_;simp only [zz]
            obtain ⟨cs, hcb, hcsz, hdl, hcs⟩ := HFS5.out
            refine wpList_storeU (0 + i * 1) (.slice (some ⟨b0, o, none⟩) m m) (wanted_none rfl) 38 (.tmp 62) (.tmp 61) rfl hcb rfl rfl (by rw [hcsz]; have := HLT.out; omega) ⟨rfl, rfl⟩ size_sl ?_
            intro w6 hb6 ht6
            rw [Nat.zero_add, Nat.mul_one] at hb6
            have HFS6 := Lib.hid (firsts_store hcsz hdl hcs HNE.out ht6 hb6 HLT.out (bs_take HRS5.out (by omega)) (by omega))
            have HRS6 := Lib.hid (bs_drop' (bs_only HRS5.out ht6 HNE.out) (i := m) (c := rc) (by omega) HRC.out)
            have HLS6 := Lib.hid (bs_only HLS5.out ht6 HNE.out)
            have HT6 := Lib.hid (HT5.out.trans ht6 fun k hk e => by have := HGE.out; have e : k = g := e; omega)
            clear hcb hcsz hdl hcs hb6 ht6 HFS5 HRS5 HLS5 HT5
            simp only [zz]
            obtain ⟨o', ho'⟩ : ∃ o', o' = if rc = m then o else o + m := ⟨_, rfl⟩
            rw [← ho'] at HRS6
            have HO' := Lib.hid ho'
            clear ho'
            go_upto_region 15 with fail
            refine wp_region_lit ?_
            refine nR (.slice (some ⟨b0, o, none⟩) rl rc) (exec_move rfl rfl) ?_;simp only [zz];refine nR (.int .i64 (m : Int)) (exec_move rfl rfl) ?_;simp only [zz];refine nR (.slice (some ⟨b0, o', none⟩) (rl - m) (rc - m)) ((sx_l' (n := rl) (c := rc) (i := m) (by omega) HRC.out rfl rfl rfl).trans (by rw [HO'.out])) ?_;simp only [zz];refine nR (.slice (some ⟨b0, o', none⟩) (rl - m) (rc - m)) (gx_assign rfl rfl) ?_;simp only [zz]
            go_upto_region 16 with fail
            refine wp_region_lit ?_
            refine nR (.int .i64 ((i + 1 : Nat) : Int)) (ix_add rfl rfl rfl (by omega) (by omega)) ?_;simp only [zz];refine nR (.int .i64 ((i + 1 : Nat) : Int)) (exec_move rfl rfl) ?_;simp only [zz]
            go_wp2_with fail
            go_roundg (gk - 1)
            case measure => have := HGK.out; omega
            case rel => exact ⟨i + 1, o', rl - m, rc - m, rest.drop m, dn ++ [rest.take m], rfl, rfl, by have := HGK.out; omega, by have := HRC.out; omega, by omega, HRS6.out, HUN3.out, HLS6.out, HFS6.out, HT6.out⟩
        · obtain rfl : k = i := by have := HGK.out; omega
          go_upto_region 9 with fail
          refine wp_region_lit ?_
          refine nR (.bool false) (ix_lss rfl rfl rfl (decide_eq_false (by omega))) ?_;simp only [zz]
          go_upto_region 17 with fail
          refine wp_region_lit ?_
          refine nR (.slice (some ⟨g, 0, none⟩) k k) (exec_move rfl rfl) ?_;simp only [zz];refine nR (.slice (some ⟨g, 0, none⟩) k k) (gx_assign rfl rfl) ?_;simp only [zz];refine nR (.bool true) (gx_assign rfl rfl) ?_;simp only [zz]
          go_wp2_with fail
          go_ret2
          obtain ⟨cs, hcb, hcsz, hdl, hcs⟩ := HFS.out
          have hun : Wl.unpack Crc.sumN s t = some dn := by
            rw [HUN.out, List.drop_eq_nil_of_le (by rw [lens_len]; exact Nat.le_refl _)]
            simp [cutRecs]
          refine ⟨HTR.out, .inr ⟨dn, g, hun, by rw [hdl]; rfl, ?_, HGE.out, b0, _, rfl, by rw [hdl]; exact HFS.out⟩⟩
          refine ⟨rfl, by omega, fun _ => ⟨g, 0, rfl, fun j l hj => ?_⟩⟩
          obtain ⟨a, m, q1, q2, q3⟩ := hcs j l hj
          exact ⟨some ⟨b0, a, none⟩, m, m, by rw [Nat.zero_add, hcb.cell]; exact q1, q2, (fun e => by cases e), q3⟩
end Go.Proofs.YtelipeoilcepbaaDoor
