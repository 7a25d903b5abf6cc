/-
  Put of both, behind any bytes. Conditions: the rows read as the program's text lays them.
-/
import Derived.Test.YtgdlidjjogoiaaaGreatDoorFdPf
import Derived.Test.YtgdlidjjogoiaaaGreatDoorFdU
import Derived.Test.YtgdlidjjogoiaaaGreatDoorAlw
namespace Go.Proofs.YtgdlidjjogoiaaaGreatDoor
open Go.RowKit
open Fdd
set_option linter.unusedVariables false
set_option linter.unusedSimpArgs false
def putR (f : Fm) (t b : List UInt8) : List UInt8 := if f.check t = 0 then b ++ f.put t else []
def PutPost (w : World) (f : Fm) (t b : List UInt8) (e : Ending) (w' : World) : Prop := ∃ A n c, e = .returned (.tuple #[.slice A n c, .int .i64 (f.check t)]) ∧ Own w' w.heap.size 5 (.slice A n c) (putR f t b) ∧ Turn nowhere w w'
theorem put_all {w : World} {f : Fm} {n cap : Nat} {A : Option Addr} {b t : List UInt8} (hr : RowsT w) (hb : Bs w A n b) (hn : n ≤ 140737488351232) :
    Calls Tryz.prog 6 #[.slice A n cap, fmV f, strV t] w (PutPost w f t b) := by
  by_cases h : f.check t = 0
  · obtain ⟨hm, hrt⟩ := check_cases h
    obtain ⟨k, s, c, rfl, h1, h2, h3⟩ := fm_exp hm
    refine (put_main (cap := cap) h1 h2 h3 hrt hr hb (by omega)).mono ?_
    rintro e w' ⟨A', n', c', rfl, ho, ht⟩
    refine ⟨A', n', c', by rw [h], ?_, ht⟩
    unfold putR
    rw [if_pos h]
    exact ho
  · refine (put_bad (cap := cap) (n := n) (A := A) h hr).mono ?_
    rintro e w' ⟨rfl, ht⟩
    refine ⟨none, 0, 0, rfl, ?_, ht⟩
    unfold putR
    rw [if_neg h]
    exact World.ownsRow_nil w' _ _ _
set_option maxHeartbeats 2000000 in
set_option maxRecDepth 20000 in
theorem rput_walk {w : World} {f : Fm} {n cap : Nat} {A : Option Addr} {b t : List UInt8} (hb : Bs w A n b) (hz : A = none → cap = 0) (hn : n ≤ 140737488351232) (hl : t.length ≤ 9223372036854775807) :
    Calls Tryz.prog 7 #[.slice A n cap, fmV f, strV t] w (PutPost w f t b) := by
  have HCK := Lib.hid (fun W => rcheck_walk (f := f) W hl)
  have HB := Lib.hid hb
  have HZ := Lib.hid hz
  have HN := Lib.hid hn
  have hby : f.check t = 0 → (∀ W, Calls Tryz.prog 19 #[fmV f, strV t] W (Made W (f.put t))) ∧ (f.put t).length ≤ 1000 := by
    intro h
    have hs := put_small h
    obtain ⟨hm, hrt⟩ := check_cases h
    obtain ⟨k, s, c, rfl, h1, h2, h3⟩ := fm_exp hm
    exact ⟨fun W => bytes_walk W h1 h2 h3 hrt, hs⟩
  have HBY := Lib.hid hby
  have hR : putR f t b = if f.check t = 0 then b ++ f.put t else [] := rfl
  have HR := Lib.hid hR
  clear hb hz hn hl hby hR
  obtain ⟨ke, hke⟩ : ∃ ke, ke = f.check t := ⟨_, rfl⟩
  have hpp : PutPost w f t b = fun e w' => ∃ A n c, e = .returned (.tuple #[.slice A n c, .int .i64 ke]) ∧ Own w' w.heap.size 5 (.slice A n c) (putR f t b) ∧ Turn nowhere w w' := by
    rw [hke]
    rfl
  rw [hpp]
  rw [← hke] at HCK HBY HR
  clear hpp hke
  generalize putR f t b = R at *
  generalize f.put t = pv at *
  obtain ⟨x0, x1, x2⟩ := f
  have hfv : fmV ⟨x0, x1, x2⟩ = .agg #[.int .i64 x0, .int .i64 x1, .int .i64 x2] := rfl
  rw [hfv] at HCK HBY ⊢
  clear hfv
  obtain ⟨b4, hb4⟩ : ∃ b4, b4 = w.heap.size := ⟨_, rfl⟩
  have HB4 := Lib.hid hb4
  go_enter Tryz.func7, Tryz.ntmps7
  go_upto_region 1 with fail
  have hb0 := Blk.new w 24 #[.int .i64 x0, .int .i64 x1, .int .i64 x2]
  have ht0 := (Turn.refl nowhere w).alloc (.cells #[.int .i64 x0, .int .i64 x1, .int .i64 x2] 24)
  generalize (w.alloc (.cells #[.int .i64 x0, .int .i64 x1, .int .i64 x2] 24)) = w1 at *
  rw [← hb4] at hb0 ⊢
  have HBK := Lib.hid hb0
  have HT0 := Lib.hid ht0
  clear hb0 ht0 hb4
  refine wp_region_lit ?_
  refine wpList_run (v := .agg #[.int .i64 x0, .int .i64 x1, .int .i64 x2]) (w' := w1) rfl (exec_load rfl rfl (load_blkForm HBK.out)) ?_
  simp only [Act.put, List.setIfInBounds_toArray, List.set_cons_zero, List.set_cons_succ]
  go_wp2_with fail
  refine (HCK.out w1).mono ?_
  rintro e w2 ⟨rfl, ht2⟩
  have HT2 := Lib.hid (HT0.out.trans ht2 fun _ _ e => e)
  have HBK := Lib.hid (HBK.out.turn ht2 fun e => e)
  clear ht2
  by_cases h0 : ke = 0
  · subst h0
    have hr := HR.out
    rw [if_pos rfl] at hr
    subst hr
    obtain ⟨hbw, hpl⟩ := HBY.out rfl
    have HBW := Lib.hid hbw
    have HPL := Lib.hid hpl
    clear hbw hpl HR HBY
    go_upto_region 4 with fail
    refine wp_region_lit ?_
    refine wpList_run (v := _) rfl (exec_make0 rfl) ?_
    simp only [Act.put, List.setIfInBounds_toArray, List.set_cons_zero, List.set_cons_succ]
    refine wpList_run (v := .slice A n cap) rfl (exec_move rfl rfl) ?_
    simp only [Act.put, List.setIfInBounds_toArray, List.set_cons_zero, List.set_cons_succ]
    have hown0 := Own.empty w2 w2.heap.size 5 (Nat.le_refl _)
    have hb1 : Bs (w2.alloc (.cells #[] 5)) A n b := bs_turn HB.out (HT2.out.alloc _)
    have hb2t : Below w2.heap.size w2 (w2.alloc (.cells #[] 5)) := (Below.refl _ w2).alloc (Nat.le_refl _) _
    have hle3 : w2.heap.size ≤ (w2.alloc (.cells #[] 5)).heap.size := by simp
    generalize (w2.alloc (.cells #[] 5)) = w3 at *
    refine wpList_append_bytes w3 rfl _ _ _ rfl w2.heap.size 5 byteInfo Tryz.underlying22 _ [] rfl hown0 A n cap b rfl hb1 HZ.out (by have := HN.out; simp; omega) hle3 ?_
    intro v4 w4 ho4 hb4
    rw [List.nil_append] at ho4
    obtain ⟨A4, n4, c4, rfl, hbs4, _⟩ := ho4.form
    simp only [Act.put, List.setIfInBounds_toArray, List.set_cons_zero, List.set_cons_succ]
    have HO4 := Lib.hid ho4
    have hbel := hb2t.trans hb4
    have HT4 := Lib.hid (turn_below HT2.out (hbel.mono HT2.out.size))
    have HBK4 := Lib.hid (HBK.out.turn (Turn.of_below hbel (Nat.le_refl _)) fun e => e)
    have HL4 := Lib.hid (show b.length ≤ 140737488351232 by have := HB.out.1; have := HN.out; omega)
    have HLE4 := Lib.hid hbel.size
    clear ho4 hb4 hown0 hb1 hb2t hle3 hbs4 hbel
    go_upto_region 5 with fail
    refine wp_region_lit ?_
    refine wpList_run (v := .slice A4 n4 c4) rfl (exec_move rfl rfl) ?_
    simp only [Act.put, List.setIfInBounds_toArray, List.set_cons_zero, List.set_cons_succ]
    refine wpList_run (v := .agg #[.int .i64 x0, .int .i64 x1, .int .i64 x2]) (w' := w4) rfl (exec_load rfl rfl (load_blkForm HBK4.out)) ?_
    simp only [Act.put, List.setIfInBounds_toArray, List.set_cons_zero, List.set_cons_succ]
    refine wpList_run (v := strV t) rfl (exec_move rfl rfl) ?_
    simp only [Act.put, List.setIfInBounds_toArray, List.set_cons_zero, List.set_cons_succ]
    refine wpList_call rfl ?_
    intro K1 HK1
    go_wp2_with fail
    refine (HBW.out w4).mono ?_
    rintro e w5 ⟨A5, n5, c5, rfl, ho5, ht5⟩
    refine HK1.out _ _ ?_
    clear HK1
    try simp only [Act.put, List.setIfInBounds_toArray, List.set_cons_zero, List.set_cons_succ]
    obtain ⟨hbs5, hn5, hz5⟩ := own_bs ho5
    have ho4' : Own w5 w2.heap.size 5 (.slice A4 n4 c4) b := Own.below HO4.out (ht5.below (Nat.le_refl _) (fun _ _ e => e)) (Nat.le_refl _)
    refine wpList_append_bytes w5 rfl _ _ _ rfl w2.heap.size 5 byteInfo Tryz.underlying22 _ b rfl ho4' A5 n5 c5 pv rfl hbs5 hz5 (by have := HL4.out; have := HPL.out; have := hbs5.1; omega) (Nat.le_trans HLE4.out ht5.size) ?_
    intro v6 w6 ho6 hb6
    obtain ⟨A6, n6, c6, rfl, _⟩ := ho6.form
    simp only [Act.put, List.setIfInBounds_toArray, List.set_cons_zero, List.set_cons_succ]
    have HO6 := Lib.hid (own_lower ho6 HT2.out.size)
    have HT6 := Lib.hid (turn_below (HT4.out.trans ht5 fun _ _ e => e) (hb6.mono HT2.out.size))
    clear ho6 hb6 hbs5 hn5 hz5 ho4' ho5 ht5
    go_wp2_with fail
    exact bodyPost_ret (v := .tuple #[.slice A6 n6 c6, .int .i64 0]) (by simp [results, Tryz.results7, go_sem]) rfl ⟨A6, n6, c6, rfl, HO6.out, HT6.out⟩
  · have hr := HR.out
    rw [if_neg h0] at hr
    subst hr
    have y0 : (ke == 0) = false := by simpa using h0
    have y1 : (ke != 0) = true := by simpa using h0
    clear h0
    go_wp2_with fail
    exact bodyPost_ret (v := .tuple #[.slice none 0 0, .int .i64 ke]) (by simp [results, Tryz.results7, go_sem]) rfl ⟨none, 0, 0, rfl, World.ownsRow_nil _ _ _ _, HT2.out⟩
end Go.Proofs.YtgdlidjjogoiaaaGreatDoor
