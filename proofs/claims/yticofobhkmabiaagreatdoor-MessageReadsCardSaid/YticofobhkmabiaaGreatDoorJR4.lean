/-
  Texts of MessageReads in one file, shortened: FdTm. Conditions: the tables and the errors read as the program's text lays them.
-/
import Derived.Test.YticofobhkmabiaaGreatDoorJR3
import Derived.Test.YticofobhkmabiaaGreatDoorJR0
set_option linter.unusedVariables false
set_option linter.unusedSimpArgs false
set_option maxRecDepth 40000
set_option maxHeartbeats 20000000
namespace Go.Proofs.YticofobhkmabiaaGreatDoor
open Go.RowKit
open Fdd
theorem text11_walk {s n m cap : Nat} {A : Option Addr} {b : List UInt8} (w : World) (hb : Bs w A m b) (hm : m ≤ 200) (hs : 1 ≤ s ∧ s ≤ 64) (hn : n ≤ 99) :
 Calls Tryz.prog 55 #[fmV (nf 1 s 1), .slice A m cap, .int .i64 (n : Int)] w (TextP w (rtext (nf 1 s 1) b n)) := by
 have hT : ∀ S, S = rfix (nf 1 s 1) n (rchars (nf 1 s 1) 0 b) → rtext (nf 1 s 1) b n = if (nf 1 s 1).right S = true then (S, (rlast (nf 1 s 1) (rbytes (nf 1 s 1) S) b == b) && (decide ((nf 1 s 1).kind ≠ 2) || decide (S.length = n))) else ([], false) := by
  rintro S rfl
  rfl
 have HT := zH hT
 have HBB := zH hb
 have HM := zH hm
 have HS := zH hs
 have HN := zH hn
 have HBL := zH (show b.length = m from hb.1)
 have HRT := zH (fun (W : World) (S : List UInt8) (hl : S.length ≤ 1000) => rright_any (k := 1) (s := s) (c := 1) (t := S) W (by decide) hs hl)
 have HBY := zH (fun (W : World) (S : List UInt8) (hr : (nf 1 s 1).right S = true) => rbytes_any (k := 1) (s := s) (c := 1) (t := S) W (by decide) (by decide) hs hr)
 clear hT hb hm hs hn
 generalize hR : rtext (nf 1 s 1) b n = R at *
 clear hR
 obtain ⟨b3, hb3⟩ : ∃ b3, b3 = w.heap.size := ⟨_, rfl⟩
 have hfv : fmV (nf 1 s 1) = .agg #[.int .i64 1, .int .i64 (s : Int), .int .i64 1] := rfl
 rw [hfv] at HRT HBY ⊢
 clear hfv
 go_enter Tryz.func55, Tryz.ntmps55
 go_upto_region 1 with fail
 have hb0 := Blk.new w 49 #[.int .i64 1, .int .i64 (s : Int), .int .i64 1]
 have ht0 := (Turn.refl nowhere w).alloc (.cells #[.int .i64 1, .int .i64 (s : Int), .int .i64 1] 49)
 generalize (w.alloc (.cells #[.int .i64 1, .int .i64 (s : Int), .int .i64 1] 49)) = w1 at *
 rw [← hb3] at hb0 ⊢
 have HBK := zH hb0
 have HT0 := zH ht0
 clear hb0 ht0 hb3
 obtain ⟨B, hB⟩ : ∃ B, B = w1.heap.size := ⟨_, rfl⟩
 have HB := zH hB
 have hown0 := Own.empty w1 B 5 (Nat.le_of_eq hB)
 have hbel0 : Below B w1 (w1.alloc (.cells #[] 5)) := (Below.refl _ w1).alloc (Nat.le_of_eq hB) _
 rw [← hB] at hown0
 clear hB
 refine wp_region_lit ?_
 refine wR (v := _) rfl (exec_make0 rfl) ?_
 simp only [zz]
 refine wA (.slice (some ⟨w1.heap.size, 0, none⟩) 0 0) ?_
 simp only [zz]
 rw [← HB.out]
 generalize (w1.alloc (.cells #[] 5)) = w2 at *
 have HO0 := zH hown0
 have HB0 := zH hbel0
 clear hown0 hbel0
 go_wp2_with fail
 go_loopg [8, 9] m (fun gk tv i wr => ∃ (k : Nat) (A' : Option Addr) (n' c' : Nat), k + gk = m ∧ i = .int .i64 (k : Int) ∧ tv = .slice A' n' c' ∧ Own wr B 5 (.slice A' n' c') (rchars (nf 1 s 1) 0 (b.take k)) ∧ Below B w1 wr)
 case atStart => exact ⟨0, some ⟨B, 0, none⟩, 0, 0, by omega, rfl, rfl, HO0.out, HB0.out⟩
 case round =>
  obtain ⟨k, A', n', c', hkl, rfl, rfl, hown, hbel⟩ := hrel
  have HKL := zH hkl
  have HO := zH hown
  have HE := zH hbel
  clear hkl hown hbel
  have htw : Turn nowhere w wr := turn_below HT0.out (HE.out.mono (by rw [HB.out]; exact HT0.out.size))
  have HTW := zH htw
  have HBW := zH (bs_turn HBB.out htw)
  have hbk : Blk wr b3 49 #[.int .i64 1, .int .i64 (s : Int), .int .i64 1] := (HE.out.block b3 (by rw [HB.out]; exact HBK.out.lt)).trans HBK.out
  have d0 : wr.cell? ⟨b3, 0, none⟩ = some (.int .i64 1) := hbk.cell 0
  have d1 : wr.cell? ⟨b3, 1, none⟩ = some (.int .i64 (s : Int)) := hbk.cell 1
  have d2 : wr.cell? ⟨b3, 2, none⟩ = some (.int .i64 1) := hbk.cell 2
  have HBKW := zH hbk
  clear htw hbk
  go_upto_region 3 with fail
  refine wp_region_lit ?_
  refine wM (.int .i64 (k : Int)) ?_
  simp only [zz]
  refine wM (.slice A m cap) ?_
  simp only [zz]
  refine wR (v := .int .i64 (m : Int)) (w' := wr) rfl (gx_len rfl rfl Tryz.underlying26) ?_
  simp only [zz]
  by_cases hlt : k < m
  ·refine wR (v := .bool true) (w' := wr) rfl (exec_lss rfl rfl rfl (by omega)) ?_
   simp only [zz]
   have HLT := zH hlt
   clear hlt
   obtain ⟨_, _, hcc⟩ := HBW.out
   obtain ⟨g, off, rfl, hcell⟩ := hcc (by have := HLT.out; omega)
   have hck := hcell k HLT.out
   have htk := rchars_snoc (nf 1 s 1) k 0 b (by rw [HBL.out]; exact HLT.out)
   rw [Nat.zero_add] at htk
   have hlo : (rchars (nf 1 s 1) 0 (b.take k)).length ≤ 400 := by
    have h1 := rchars_len (nf 1 s 1) (b.take k) 0
    rw [List.length_take] at h1
    have := HBL.out
    have := HM.out
    omega
   have HLO := zH hlo
   generalize b.getD k 0 = x at *
   clear hcc hcell hlo
   have HTK := zH htk
   have HCK := zH hck
   clear htk hck
   go_upto_region 5 with fail
   refine wp_region_lit ?_
   refine wM (.slice (some ⟨g, off, none⟩) m cap) ?_
   simp only [zz]
   refine wM (.int .i64 (k : Int)) ?_
   simp only [zz]
   refine wR (v := .pointer (some ⟨g, off + k, none⟩)) (w' := wr) rfl (gx_iaddr (off := off) (n := m) (c := cap) (i := k) (sz := 1) (k := .i64) rfl rfl rfl Tryz.underlying26 size_u8 HLT.out (by omega)) ?_
   simp only [zz]
   refine wR (v := .int .u8 (x.toNat : Int)) (w' := wr) rfl (exec_load1 rfl rfl (by kernel_rfl) HCK.out) ?_
   simp only [zz]
   refine wA (.int .u8 (x.toNat : Int)) ?_
   simp only [zz]
   have HRC := zH (show rch (nf 1 s 1) k x = [x] from rfl)
   go_upto_region 7 with fail
   refine wp_region_lit ?_
   refine wM (.slice A' n' c') ?_
   simp only [zz]
   refine wM (.int .u8 (x.toNat : Int)) ?_
   simp only [zz]
   refine wR (v := _) rfl (exec_one (z := x) rfl rfl) ?_
   simp only [zz]
   have hone := bs_blk (Blk.new wr 5 (bcs [x]).toArray) (n := 1) rfl (by unfold maxLen; omega)
   have hown1 : Own (wr.alloc (.cells (bcs [x]).toArray 5)) B 5 (.slice A' n' c') (rchars (nf 1 s 1) 0 (b.take k)) := HO.out.alloc _
   refine wpList_append_bytes _ rfl _ _ _ rfl B 5 byteInfo Tryz.underlying26 _ _ rfl hown1 _ 1 1 [x] rfl hone (fun h => by cases h) (by have := HLO.out; omega) (by have h1 := HE.out.size; have h2 := HB.out; simp; omega) ?_
   intro v2 w3 ho2 hb2
   simp only [zz]
   obtain ⟨A2, m2, c2, rfl, _⟩ := ho2.form
   have HO2 := zH ho2
   have HB2 := zH hb2
   clear ho2 hb2
   have b0 : (0 : Int) ≤ (k : Int) := by omega
   have b1 : (k : Int) ≤ 200 := by have := HLT.out; have := HM.out; omega
   clear hone hown1
   go_wp2_with fail
   go_roundg (gk - 1)
   case measure => have := HKL.out; have := HLT.out; omega
   case rel =>
    refine ⟨k + 1, A2, m2, c2, by have := HKL.out; have := HLT.out; omega, by go_num, rfl, ?_, (HE.out.alloc (by have h1 := HE.out.size; have h2 := HB.out; show B ≤ wr.heap.size; omega) _).trans HB2.out⟩
    rw [HTK.out, HRC.out]
    exact HO2.out
  ·refine wR (v := .bool false) (w' := wr) rfl (exec_nlss rfl rfl rfl (by omega)) ?_
   simp only [zz]
   have hkb : b.take k = b := List.take_of_length_le (by have := HKL.out; have := HBL.out; omega)
   have ho := HO.out
   rw [hkb] at ho
   have HO := zH ho
   have hl0 := rchars_len (nf 1 s 1) b 0
   have HL0 := zH (show (rchars (nf 1 s 1) 0 b).length ≤ 400 by have := HBL.out; have := HM.out; omega)
   clear hlt hkb ho hl0
   obtain ⟨S0, hS0⟩ : ∃ S0, S0 = rchars (nf 1 s 1) 0 b := ⟨_, rfl⟩
   rw [← hS0] at HO HL0
   have HS0 := zH hS0
   clear hS0
   go_upto_region 22 with fail
   refine wp_region_lit ?_
   refine wM (.slice A' n' c') ?_
   simp only [zz]
   refine wR (v := strV S0) (w' := wr) rfl (exec_strBs rfl rfl (own_bs HO.out).1) ?_
   simp only [zz]
   refine wA (strV S0) ?_
   simp only [zz]
   have e1 : rfix1 (nf 1 s 1) n S0 = S0 := if_neg fun h => absurd h.1 (show ¬ ((1 : Int) = 2) from by decide)
   have e2 : rfix2 (nf 1 s 1) (S0) = S0 := if_neg fun h => absurd h.1 (show ¬ ((1 : Int) = 2) from by decide)
   have HFS := zH (show S0 = rfix (nf 1 s 1) n (rchars (nf 1 s 1) 0 b) from by
    rw [← HS0.out]
    show S0 = rfix2 (nf 1 s 1) (rfix1 (nf 1 s 1) n S0)
    rw [e1, e2])
   have HTS := zH (HT.out _ HFS.out)
   clear e1 e2
   have HSL := zH (show S0.length ≤ 1000 by have := HL0.out; omega)
   go_upto_region 27 with fail
   clear d1
   refine wp_region_lit ?_
   refine wR (v := .agg #[.int .i64 1, .int .i64 (s : Int), .int .i64 1]) (w' := wr) rfl (exec_load rfl rfl (load_blkForm HBKW.out)) ?_
   simp only [zz]
   refine wM (strV S0) ?_
   simp only [zz]
   refine wpList_call rfl ?_
   intro K1 HK1
   go_wp2_with fail
   refine (HRT.out wr S0 HSL.out).mono ?_
   rintro e w4 ⟨rfl, ht4⟩
   refine HK1.out _ _ ?_
   clear HK1
   try simp only [zz]
   have HT4 := zH (HTW.out.trans ht4 fun _ _ e => e)
   have HBK4 := zH (HBKW.out.turn ht4 fun e => e)
   clear ht4 d0 d2
   cases hrt : (nf 1 s 1).right S0 with
   | false =>
     have hR := HTS.out
     rw [if_neg (by rw [hrt]; decide)] at hR
     clear hrt
     go_wp2_with fail
     go_ret2
     subst hR
     exact ⟨rfl, HT4.out⟩
   | true =>
     have hR := HTS.out
     rw [if_pos hrt] at hR
     have HBYS := zH (HBY.out w4 S0 hrt)
     generalize rbytes (nf 1 s 1) S0 = wv at *
     have HR := zH hR
     clear hrt hR
     go_upto_region 29 with fail
     refine wp_region_lit ?_
     refine wR (v := .agg #[.int .i64 1, .int .i64 (s : Int), .int .i64 1]) (w' := w4) rfl (exec_load rfl rfl (load_blkForm HBK4.out)) ?_
     simp only [zz]
     refine wM (strV S0) ?_
     simp only [zz]
     refine wpList_call rfl ?_
     intro K1 HK1
     go_wp2_with fail
     refine HBYS.out.mono ?_
     rintro e w5 ⟨A5, n5, c5, rfl, ho5, ht5⟩
     refine HK1.out _ _ ?_
     clear HK1
     try simp only [zz]
     have HT5 := zH (HT4.out.trans ht5 fun _ _ e => e)
     have hbk5 := HBK4.out.turn ht5 fun e => e
     have d0 : w5.cell? ⟨b3, 0, none⟩ = some (.int .i64 1) := hbk5.cell 0
     obtain ⟨hbs5, hnc5, hz5⟩ := own_bs ho5
     have HB5 := zH hbs5
     have HNC5 := zH hnc5
     have HZ5 := zH hz5
     have HBb := zH (bs_turn HBB.out HT5.out)
     clear ho5 ht5 hbk5 hbs5 hnc5 hz5
     have hR := HR.out
     rw [show rlast (nf 1 s 1) wv b = wv from rfl] at hR
     have HR := zH hR
     clear hR
     go_upto_region 32 with fail
     refine wp_region_lit ?_
     refine wM (strV S0) ?_
     simp only [zz]
     refine wM (.slice A5 n5 c5) ?_
     simp only [zz]
     refine wR (v := strV wv) (w' := w5) rfl (exec_strBs rfl rfl HB5.out) ?_
     simp only [zz]
     refine wM (.slice A m cap) ?_
     simp only [zz]
     refine wR (v := strV b) (w' := w5) rfl (exec_strBs rfl rfl HBb.out) ?_
     simp only [zz]
     refine wR (v := .bool (wv == b)) (w' := w5) rfl (exec_seql rfl rfl rfl) ?_
     simp only [zz]
     cases heq : (wv == b) with
     | true =>
       have hR := HR.out
       rw [heq] at hR
       have HR := zH hR
       clear hR heq
       go_wp2_with fail
       go_ret2
       rw [HR.out]
       exact ⟨rfl, HT5.out⟩
     | false =>
       have hR := HR.out
       rw [heq] at hR
       have HR := zH hR
       clear hR heq
       go_wp2_with fail
       go_ret2
       rw [HR.out]
       exact ⟨rfl, HT5.out⟩
theorem text12_walk {s n m cap : Nat} {A : Option Addr} {b : List UInt8} (w : World) (hb : Bs w A m b) (hm : m ≤ 200) (hs : 1 ≤ s ∧ s ≤ 64) (hn : n ≤ 99) :
 Calls Tryz.prog 55 #[fmV (nf 1 s 2), .slice A m cap, .int .i64 (n : Int)] w (TextP w (rtext (nf 1 s 2) b n)) := by
 have hT : ∀ S, S = rfix (nf 1 s 2) n (rchars (nf 1 s 2) 0 b) → rtext (nf 1 s 2) b n = if (nf 1 s 2).right S = true then (S, (rlast (nf 1 s 2) (rbytes (nf 1 s 2) S) b == b) && (decide ((nf 1 s 2).kind ≠ 2) || decide (S.length = n))) else ([], false) := by
  rintro S rfl
  rfl
 have HT := zH hT
 have HBB := zH hb
 have HM := zH hm
 have HS := zH hs
 have HN := zH hn
 have HBL := zH (show b.length = m from hb.1)
 have HRT := zH (fun (W : World) (S : List UInt8) (hl : S.length ≤ 1000) => rright_any (k := 1) (s := s) (c := 2) (t := S) W (by decide) hs hl)
 have HBY := zH (fun (W : World) (S : List UInt8) (hr : (nf 1 s 2).right S = true) => rbytes_any (k := 1) (s := s) (c := 2) (t := S) W (by decide) (by decide) hs hr)
 clear hT hb hm hs hn
 generalize hR : rtext (nf 1 s 2) b n = R at *
 clear hR
 obtain ⟨b3, hb3⟩ : ∃ b3, b3 = w.heap.size := ⟨_, rfl⟩
 have hfv : fmV (nf 1 s 2) = .agg #[.int .i64 1, .int .i64 (s : Int), .int .i64 2] := rfl
 rw [hfv] at HRT HBY ⊢
 clear hfv
 go_enter Tryz.func55, Tryz.ntmps55
 go_upto_region 1 with fail
 have hb0 := Blk.new w 49 #[.int .i64 1, .int .i64 (s : Int), .int .i64 2]
 have ht0 := (Turn.refl nowhere w).alloc (.cells #[.int .i64 1, .int .i64 (s : Int), .int .i64 2] 49)
 generalize (w.alloc (.cells #[.int .i64 1, .int .i64 (s : Int), .int .i64 2] 49)) = w1 at *
 rw [← hb3] at hb0 ⊢
 have HBK := zH hb0
 have HT0 := zH ht0
 clear hb0 ht0 hb3
 obtain ⟨B, hB⟩ : ∃ B, B = w1.heap.size := ⟨_, rfl⟩
 have HB := zH hB
 have hown0 := Own.empty w1 B 5 (Nat.le_of_eq hB)
 have hbel0 : Below B w1 (w1.alloc (.cells #[] 5)) := (Below.refl _ w1).alloc (Nat.le_of_eq hB) _
 rw [← hB] at hown0
 clear hB
 refine wp_region_lit ?_
 refine wR (v := _) rfl (exec_make0 rfl) ?_
 simp only [zz]
 refine wA (.slice (some ⟨w1.heap.size, 0, none⟩) 0 0) ?_
 simp only [zz]
 rw [← HB.out]
 generalize (w1.alloc (.cells #[] 5)) = w2 at *
 have HO0 := zH hown0
 have HB0 := zH hbel0
 clear hown0 hbel0
 go_wp2_with fail
 go_loopg [8, 9] m (fun gk tv i wr => ∃ (k : Nat) (A' : Option Addr) (n' c' : Nat), k + gk = m ∧ i = .int .i64 (k : Int) ∧ tv = .slice A' n' c' ∧ Own wr B 5 (.slice A' n' c') (rchars (nf 1 s 2) 0 (b.take k)) ∧ Below B w1 wr)
 case atStart => exact ⟨0, some ⟨B, 0, none⟩, 0, 0, by omega, rfl, rfl, HO0.out, HB0.out⟩
 case round =>
  obtain ⟨k, A', n', c', hkl, rfl, rfl, hown, hbel⟩ := hrel
  have HKL := zH hkl
  have HO := zH hown
  have HE := zH hbel
  clear hkl hown hbel
  have htw : Turn nowhere w wr := turn_below HT0.out (HE.out.mono (by rw [HB.out]; exact HT0.out.size))
  have HTW := zH htw
  have HBW := zH (bs_turn HBB.out htw)
  have hbk : Blk wr b3 49 #[.int .i64 1, .int .i64 (s : Int), .int .i64 2] := (HE.out.block b3 (by rw [HB.out]; exact HBK.out.lt)).trans HBK.out
  have d0 : wr.cell? ⟨b3, 0, none⟩ = some (.int .i64 1) := hbk.cell 0
  have d1 : wr.cell? ⟨b3, 1, none⟩ = some (.int .i64 (s : Int)) := hbk.cell 1
  have d2 : wr.cell? ⟨b3, 2, none⟩ = some (.int .i64 2) := hbk.cell 2
  have HBKW := zH hbk
  clear htw hbk
  go_upto_region 3 with fail
  refine wp_region_lit ?_
  refine wM (.int .i64 (k : Int)) ?_
  simp only [zz]
  refine wM (.slice A m cap) ?_
  simp only [zz]
  refine wR (v := .int .i64 (m : Int)) (w' := wr) rfl (gx_len rfl rfl Tryz.underlying26) ?_
  simp only [zz]
  by_cases hlt : k < m
  ·refine wR (v := .bool true) (w' := wr) rfl (exec_lss rfl rfl rfl (by omega)) ?_
   simp only [zz]
   have HLT := zH hlt
   clear hlt
   obtain ⟨_, _, hcc⟩ := HBW.out
   obtain ⟨g, off, rfl, hcell⟩ := hcc (by have := HLT.out; omega)
   have hck := hcell k HLT.out
   have htk := rchars_snoc (nf 1 s 2) k 0 b (by rw [HBL.out]; exact HLT.out)
   rw [Nat.zero_add] at htk
   have hlo : (rchars (nf 1 s 2) 0 (b.take k)).length ≤ 400 := by
    have h1 := rchars_len (nf 1 s 2) (b.take k) 0
    rw [List.length_take] at h1
    have := HBL.out
    have := HM.out
    omega
   have HLO := zH hlo
   generalize b.getD k 0 = x at *
   clear hcc hcell hlo
   have HTK := zH htk
   have HCK := zH hck
   clear htk hck
   go_upto_region 5 with fail
   refine wp_region_lit ?_
   refine wM (.slice (some ⟨g, off, none⟩) m cap) ?_
   simp only [zz]
   refine wM (.int .i64 (k : Int)) ?_
   simp only [zz]
   refine wR (v := .pointer (some ⟨g, off + k, none⟩)) (w' := wr) rfl (gx_iaddr (off := off) (n := m) (c := cap) (i := k) (sz := 1) (k := .i64) rfl rfl rfl Tryz.underlying26 size_u8 HLT.out (by omega)) ?_
   simp only [zz]
   refine wR (v := .int .u8 (x.toNat : Int)) (w' := wr) rfl (exec_load1 rfl rfl (by kernel_rfl) HCK.out) ?_
   simp only [zz]
   refine wA (.int .u8 (x.toNat : Int)) ?_
   simp only [zz]
   have HRC := zH (show rch (nf 1 s 2) k x = [hexs.getD (x.toNat / 16) 0, hexs.getD (x.toNat % 16) 0] from rfl)
   have hx1 : x.toNat / 16 < hexs.length := by have := x.toNat_lt; show _ < 16; omega
   have hx2 : x.toNat % 16 < hexs.length := by show _ < 16; omega
   have HX1 := zH hx1
   have HX2 := zH hx2
   clear hx1 hx2
   go_upto_region 9 with fail
   generalize hy : hexs.getD (x.toNat / 16) 0 = y at *
   generalize hz : hexs.getD (x.toNat % 16) 0 = z at *
   have HY := zH hy
   have HZ := zH hz
   clear hy hz
   refine wp_region_alw (fun _ => True) (by kernel_rfl) ?_
   refine aT (i := 0) (v := .slice A' n' c') rfl (by kernel_rfl) (by kernel_rfl) (fun W hW => exec_move rfl rfl) trivial ?_
   simp only [zz]
   refine aT (i := 1) (v := .int .u8 (x.toNat : Int)) rfl (by kernel_rfl) (by kernel_rfl) (fun W hW => exec_move rfl rfl) trivial ?_
   simp only [zz]
   refine aT (i := 2) (v := .int .u8 ((x.toNat / 16 : Nat) : Int)) rfl (by kernel_rfl) (by kernel_rfl) (fun W hW => exec_q16 rfl rfl) trivial ?_
   simp only [zz]
   refine aT (i := 3) (v := .int .u8 (y.toNat : Int)) rfl (by kernel_rfl) (by kernel_rfl) (fun W hW => by rw [← HY.out]; exact exec_sidx (l := hexs) rfl rfl rfl HX1.out) trivial ?_
   simp only [zz]
   refine aT (i := 4) (v := .int .u8 (x.toNat : Int)) rfl (by kernel_rfl) (by kernel_rfl) (fun W hW => exec_move rfl rfl) trivial ?_
   simp only [zz]
   refine aT (i := 5) (v := .int .u8 ((x.toNat % 16 : Nat) : Int)) rfl (by kernel_rfl) (by kernel_rfl) (fun W hW => exec_r16 rfl rfl) trivial ?_
   simp only [zz]
   refine aT (i := 6) (v := .int .u8 (z.toNat : Int)) rfl (by kernel_rfl) (by kernel_rfl) (fun W hW => by rw [← HZ.out]; exact exec_sidx (l := hexs) rfl rfl rfl HX2.out) trivial ?_
   simp only [zz]
   refine alw_step (i := 7) (by kernel_rfl) rfl rfl ?_
   intro K1 HK1
   refine wp_run (exec_two (u := y) (v := z) rfl rfl rfl) ?_
   refine HK1.out _ _ ⟨trivial, ?_⟩
   clear HK1
   simp only [zz]
   refine alw_step (i := 8) (by kernel_rfl) rfl rfl ?_
   intro K1 HK1
   have hone := bs_blk (Blk.new wr.drew 5 (bcs [y, z]).toArray) (n := 2) rfl (by unfold maxLen; omega)
   have hown1 : Own (wr.drew.alloc (.cells (bcs [y, z]).toArray 5)) B 5 (.slice A' n' c') (rchars (nf 1 s 2) 0 (b.take k)) := World.ownsRow.alloc (w := wr.drew) HO.out _
   refine wp_append_bytes _ _ _ _ rfl B 5 byteInfo Tryz.underlying26 _ _ rfl hown1 _ 2 2 [y, z] rfl hone (fun h => by cases h) (by have := HLO.out; omega) (by have h1 := HE.out.size; have h2 := HB.out; simp; omega) ?_
   intro v2 w3 ho2 hb2
   refine HK1.out _ _ ⟨trivial, ?_⟩
   clear HK1
   simp only [zz]
   obtain ⟨A2, m2, c2, rfl, _⟩ := ho2.form
   have HO2 := zH ho2
   have HB2 := zH hb2
   clear ho2 hb2
   have b0 : (0 : Int) ≤ (k : Int) := by omega
   have b1 : (k : Int) ≤ 200 := by have := HLT.out; have := HM.out; omega
   clear hone hown1
   refine aT (i := 9) (v := .slice A2 m2 c2) rfl (by kernel_rfl) (by kernel_rfl) (fun W hW => gx_assign rfl rfl) trivial ?_
   simp only [zz]
   refine alw_done (by kernel_rfl) ?_
   refine NoPanic.normal ?_
   go_wp2_with fail
   go_roundg (gk - 1)
   case measure => have := HKL.out; have := HLT.out; omega
   case rel =>
    refine ⟨k + 1, A2, m2, c2, by have := HKL.out; have := HLT.out; omega, by go_num, rfl, ?_, (HE.out.drew.alloc (by have h1 := HE.out.size; have h2 := HB.out; show B ≤ wr.heap.size; omega) _).trans HB2.out⟩
    rw [HTK.out, HRC.out]
    exact HO2.out
  ·refine wR (v := .bool false) (w' := wr) rfl (exec_nlss rfl rfl rfl (by omega)) ?_
   simp only [zz]
   have hkb : b.take k = b := List.take_of_length_le (by have := HKL.out; have := HBL.out; omega)
   have ho := HO.out
   rw [hkb] at ho
   have HO := zH ho
   have hl0 := rchars_len (nf 1 s 2) b 0
   have HL0 := zH (show (rchars (nf 1 s 2) 0 b).length ≤ 400 by have := HBL.out; have := HM.out; omega)
   clear hlt hkb ho hl0
   obtain ⟨S0, hS0⟩ : ∃ S0, S0 = rchars (nf 1 s 2) 0 b := ⟨_, rfl⟩
   rw [← hS0] at HO HL0
   have HS0 := zH hS0
   clear hS0
   go_upto_region 22 with fail
   refine wp_region_lit ?_
   refine wM (.slice A' n' c') ?_
   simp only [zz]
   refine wR (v := strV S0) (w' := wr) rfl (exec_strBs rfl rfl (own_bs HO.out).1) ?_
   simp only [zz]
   refine wA (strV S0) ?_
   simp only [zz]
   go_upto_region 23 with fail
   refine wp_region_lit ?_
   by_cases hX : S0.length = n + 1
   ·have HX := zH hX
    refine wR (v := .pointer (some ⟨b3, 2, none⟩)) (w' := wr) rfl (exec_field (off := 0) (d := 2) rfl rfl (by kernel_rfl)) ?_
    simp only [zz]
    refine wR (v := .int .i64 2) (w' := wr) rfl (exec_load1 rfl rfl (by kernel_rfl) d2) ?_
    simp only [zz]
    refine wR (v := .bool true) (w' := wr) rfl (exec_ieq rfl rfl rfl (by decide)) ?_
    simp only [zz]
    refine wM (.bool true) ?_
    simp only [zz]
    refine wR (v := .pointer (some ⟨b3, 0, none⟩)) (w' := wr) rfl (exec_field (off := 0) (d := 0) rfl rfl (by kernel_rfl)) ?_
    simp only [zz]
    refine wR (v := .int .i64 1) (w' := wr) rfl (exec_load1 rfl rfl (by kernel_rfl) d0) ?_
    simp only [zz]
    refine wR (v := .bool true) (w' := wr) rfl (exec_ieq rfl rfl rfl (by decide)) ?_
    simp only [zz]
    refine wM (.bool true) ?_
    simp only [zz]
    refine wpList_skip (by go_simp) ?_
    simp only [zz]
    refine wpList_skip (by go_simp) ?_
    simp only [zz]
    refine wpList_skip (by go_simp) ?_
    simp only [zz]
    refine wR (v := .bool true) (w' := wr) rfl (exec_pickT rfl rfl rfl) ?_
    simp only [zz]
    refine wR (v := .bool true) (w' := wr) rfl (exec_pickT rfl rfl rfl) ?_
    simp only [zz]
    refine wM (.bool true) ?_
    simp only [zz]
    refine wM (strV S0) ?_
    simp only [zz]
    refine wR (v := .int .i64 (S0.length : Int)) (w' := wr) rfl (exec_slen rfl rfl) ?_
    simp only [zz]
    refine wM (.int .i64 (n : Int)) ?_
    simp only [zz]
    refine wR (v := .int .i64 ((n + 1 : Nat) : Int)) (w' := wr) rfl (exec_iadd rfl rfl rfl (by omega) (by have := HN.out; omega)) ?_
    simp only [zz]
    refine wR (v := .bool true) (w' := wr) rfl (exec_ieq rfl rfl rfl (by have := HX.out; first | (simp; omega) | (rw [beq_eq_false_iff_ne]; omega))) ?_
    simp only [zz]
    refine wR (v := .bool true) (w' := wr) rfl (exec_pickT rfl rfl rfl) ?_
    simp only [zz]
    obtain ⟨S, hSd⟩ : ∃ S, S = S0.drop 1 := ⟨_, rfl⟩
    have HSD := zH hSd
    clear hSd
    go_upto_region 24 with fail
    refine wp_region_lit ?_
    refine wM (strV S0) ?_
    simp only [zz]
    refine wR (v := strV S) (w' := wr) rfl (by rw [HSD.out]; exact exec_sfrom1 rfl rfl (by have := HX.out; omega)) ?_
    simp only [zz]
    refine wA (strV S) ?_
    simp only [zz]
    have e1 : rfix1 (nf 1 s 2) n S0 = S0.drop 1 := if_pos ⟨rfl, .inl rfl, HX.out⟩
    have e2 : rfix2 (nf 1 s 2) (S0.drop 1) = S0.drop 1 := if_neg fun h => absurd h.2.1 (show ¬ ((1 : Int) = 5) from by decide)
    have HFS := zH (show S = rfix (nf 1 s 2) n (rchars (nf 1 s 2) 0 b) from by
     rw [← HS0.out]
     rw [HSD.out]
     show S0.drop 1 = rfix2 (nf 1 s 2) (rfix1 (nf 1 s 2) n S0)
     rw [e1, e2])
    have HTS := zH (HT.out _ HFS.out)
    clear e1 e2
    clear hX
    have HSL := zH (show S.length ≤ 1000 by rw [HSD.out, List.length_drop]; have := HL0.out; omega)
    go_upto_region 27 with fail
    clear d1
    refine wp_region_lit ?_
    refine wR (v := .agg #[.int .i64 1, .int .i64 (s : Int), .int .i64 2]) (w' := wr) rfl (exec_load rfl rfl (load_blkForm HBKW.out)) ?_
    simp only [zz]
    refine wM (strV S) ?_
    simp only [zz]
    refine wpList_call rfl ?_
    intro K1 HK1
    go_wp2_with fail
    refine (HRT.out wr S HSL.out).mono ?_
    rintro e w4 ⟨rfl, ht4⟩
    refine HK1.out _ _ ?_
    clear HK1
    try simp only [zz]
    have HT4 := zH (HTW.out.trans ht4 fun _ _ e => e)
    have HBK4 := zH (HBKW.out.turn ht4 fun e => e)
    clear ht4 d0 d2
    cases hrt : (nf 1 s 2).right S with
    | false =>
      have hR := HTS.out
      rw [if_neg (by rw [hrt]; decide)] at hR
      clear hrt
      go_wp2_with fail
      go_ret2
      subst hR
      exact ⟨rfl, HT4.out⟩
    | true =>
      have hR := HTS.out
      rw [if_pos hrt] at hR
      have HBYS := zH (HBY.out w4 S hrt)
      generalize rbytes (nf 1 s 2) S = wv at *
      have HR := zH hR
      clear hrt hR
      go_upto_region 29 with fail
      refine wp_region_lit ?_
      refine wR (v := .agg #[.int .i64 1, .int .i64 (s : Int), .int .i64 2]) (w' := w4) rfl (exec_load rfl rfl (load_blkForm HBK4.out)) ?_
      simp only [zz]
      refine wM (strV S) ?_
      simp only [zz]
      refine wpList_call rfl ?_
      intro K1 HK1
      go_wp2_with fail
      refine HBYS.out.mono ?_
      rintro e w5 ⟨A5, n5, c5, rfl, ho5, ht5⟩
      refine HK1.out _ _ ?_
      clear HK1
      try simp only [zz]
      have HT5 := zH (HT4.out.trans ht5 fun _ _ e => e)
      have hbk5 := HBK4.out.turn ht5 fun e => e
      have d0 : w5.cell? ⟨b3, 0, none⟩ = some (.int .i64 1) := hbk5.cell 0
      obtain ⟨hbs5, hnc5, hz5⟩ := own_bs ho5
      have HB5 := zH hbs5
      have HNC5 := zH hnc5
      have HZ5 := zH hz5
      have HBb := zH (bs_turn HBB.out HT5.out)
      clear ho5 ht5 hbk5 hbs5 hnc5 hz5
      have hR := HR.out
      rw [show rlast (nf 1 s 2) wv b = wv from rfl] at hR
      have HR := zH hR
      clear hR
      go_upto_region 32 with fail
      refine wp_region_lit ?_
      refine wM (strV S) ?_
      simp only [zz]
      refine wM (.slice A5 n5 c5) ?_
      simp only [zz]
      refine wR (v := strV wv) (w' := w5) rfl (exec_strBs rfl rfl HB5.out) ?_
      simp only [zz]
      refine wM (.slice A m cap) ?_
      simp only [zz]
      refine wR (v := strV b) (w' := w5) rfl (exec_strBs rfl rfl HBb.out) ?_
      simp only [zz]
      refine wR (v := .bool (wv == b)) (w' := w5) rfl (exec_seql rfl rfl rfl) ?_
      simp only [zz]
      cases heq : (wv == b) with
      | true =>
        have hR := HR.out
        rw [heq] at hR
        have HR := zH hR
        clear hR heq
        go_wp2_with fail
        go_ret2
        rw [HR.out]
        exact ⟨rfl, HT5.out⟩
      | false =>
        have hR := HR.out
        rw [heq] at hR
        have HR := zH hR
        clear hR heq
        go_wp2_with fail
        go_ret2
        rw [HR.out]
        exact ⟨rfl, HT5.out⟩
   ·have HX := zH hX
    refine wR (v := .pointer (some ⟨b3, 2, none⟩)) (w' := wr) rfl (exec_field (off := 0) (d := 2) rfl rfl (by kernel_rfl)) ?_
    simp only [zz]
    refine wR (v := .int .i64 2) (w' := wr) rfl (exec_load1 rfl rfl (by kernel_rfl) d2) ?_
    simp only [zz]
    refine wR (v := .bool true) (w' := wr) rfl (exec_ieq rfl rfl rfl (by decide)) ?_
    simp only [zz]
    refine wM (.bool true) ?_
    simp only [zz]
    refine wR (v := .pointer (some ⟨b3, 0, none⟩)) (w' := wr) rfl (exec_field (off := 0) (d := 0) rfl rfl (by kernel_rfl)) ?_
    simp only [zz]
    refine wR (v := .int .i64 1) (w' := wr) rfl (exec_load1 rfl rfl (by kernel_rfl) d0) ?_
    simp only [zz]
    refine wR (v := .bool true) (w' := wr) rfl (exec_ieq rfl rfl rfl (by decide)) ?_
    simp only [zz]
    refine wM (.bool true) ?_
    simp only [zz]
    refine wpList_skip (by go_simp) ?_
    simp only [zz]
    refine wpList_skip (by go_simp) ?_
    simp only [zz]
    refine wpList_skip (by go_simp) ?_
    simp only [zz]
    refine wR (v := .bool true) (w' := wr) rfl (exec_pickT rfl rfl rfl) ?_
    simp only [zz]
    refine wR (v := .bool true) (w' := wr) rfl (exec_pickT rfl rfl rfl) ?_
    simp only [zz]
    refine wM (.bool true) ?_
    simp only [zz]
    refine wM (strV S0) ?_
    simp only [zz]
    refine wR (v := .int .i64 (S0.length : Int)) (w' := wr) rfl (exec_slen rfl rfl) ?_
    simp only [zz]
    refine wM (.int .i64 (n : Int)) ?_
    simp only [zz]
    refine wR (v := .int .i64 ((n + 1 : Nat) : Int)) (w' := wr) rfl (exec_iadd rfl rfl rfl (by omega) (by have := HN.out; omega)) ?_
    simp only [zz]
    refine wR (v := .bool false) (w' := wr) rfl (exec_ieq rfl rfl rfl (by have := HX.out; first | (simp; omega) | (rw [beq_eq_false_iff_ne]; omega))) ?_
    simp only [zz]
    refine wR (v := .bool false) (w' := wr) rfl (exec_pickT rfl rfl rfl) ?_
    simp only [zz]
    have e1 : rfix1 (nf 1 s 2) n S0 = S0 := if_neg fun h => HX.out h.2.2
    have e2 : rfix2 (nf 1 s 2) (S0) = S0 := if_neg fun h => absurd h.2.1 (show ¬ ((1 : Int) = 5) from by decide)
    have HFS := zH (show S0 = rfix (nf 1 s 2) n (rchars (nf 1 s 2) 0 b) from by
     rw [← HS0.out]
     show S0 = rfix2 (nf 1 s 2) (rfix1 (nf 1 s 2) n S0)
     rw [e1, e2])
    have HTS := zH (HT.out _ HFS.out)
    clear e1 e2
    clear hX
    have HSL := zH (show S0.length ≤ 1000 by have := HL0.out; omega)
    go_upto_region 27 with fail
    clear d1
    refine wp_region_lit ?_
    refine wR (v := .agg #[.int .i64 1, .int .i64 (s : Int), .int .i64 2]) (w' := wr) rfl (exec_load rfl rfl (load_blkForm HBKW.out)) ?_
    simp only [zz]
    refine wM (strV S0) ?_
    simp only [zz]
    refine wpList_call rfl ?_
    intro K1 HK1
    go_wp2_with fail
    refine (HRT.out wr S0 HSL.out).mono ?_
    rintro e w4 ⟨rfl, ht4⟩
    refine HK1.out _ _ ?_
    clear HK1
    try simp only [zz]
    have HT4 := zH (HTW.out.trans ht4 fun _ _ e => e)
    have HBK4 := zH (HBKW.out.turn ht4 fun e => e)
    clear ht4 d0 d2
    cases hrt : (nf 1 s 2).right S0 with
    | false =>
      have hR := HTS.out
      rw [if_neg (by rw [hrt]; decide)] at hR
      clear hrt
      go_wp2_with fail
      go_ret2
      subst hR
      exact ⟨rfl, HT4.out⟩
    | true =>
      have hR := HTS.out
      rw [if_pos hrt] at hR
      have HBYS := zH (HBY.out w4 S0 hrt)
      generalize rbytes (nf 1 s 2) S0 = wv at *
      have HR := zH hR
      clear hrt hR
      go_upto_region 29 with fail
      refine wp_region_lit ?_
      refine wR (v := .agg #[.int .i64 1, .int .i64 (s : Int), .int .i64 2]) (w' := w4) rfl (exec_load rfl rfl (load_blkForm HBK4.out)) ?_
      simp only [zz]
      refine wM (strV S0) ?_
      simp only [zz]
      refine wpList_call rfl ?_
      intro K1 HK1
      go_wp2_with fail
      refine HBYS.out.mono ?_
      rintro e w5 ⟨A5, n5, c5, rfl, ho5, ht5⟩
      refine HK1.out _ _ ?_
      clear HK1
      try simp only [zz]
      have HT5 := zH (HT4.out.trans ht5 fun _ _ e => e)
      have hbk5 := HBK4.out.turn ht5 fun e => e
      have d0 : w5.cell? ⟨b3, 0, none⟩ = some (.int .i64 1) := hbk5.cell 0
      obtain ⟨hbs5, hnc5, hz5⟩ := own_bs ho5
      have HB5 := zH hbs5
      have HNC5 := zH hnc5
      have HZ5 := zH hz5
      have HBb := zH (bs_turn HBB.out HT5.out)
      clear ho5 ht5 hbk5 hbs5 hnc5 hz5
      have hR := HR.out
      rw [show rlast (nf 1 s 2) wv b = wv from rfl] at hR
      have HR := zH hR
      clear hR
      go_upto_region 32 with fail
      refine wp_region_lit ?_
      refine wM (strV S0) ?_
      simp only [zz]
      refine wM (.slice A5 n5 c5) ?_
      simp only [zz]
      refine wR (v := strV wv) (w' := w5) rfl (exec_strBs rfl rfl HB5.out) ?_
      simp only [zz]
      refine wM (.slice A m cap) ?_
      simp only [zz]
      refine wR (v := strV b) (w' := w5) rfl (exec_strBs rfl rfl HBb.out) ?_
      simp only [zz]
      refine wR (v := .bool (wv == b)) (w' := w5) rfl (exec_seql rfl rfl rfl) ?_
      simp only [zz]
      cases heq : (wv == b) with
      | true =>
        have hR := HR.out
        rw [heq] at hR
        have HR := zH hR
        clear hR heq
        go_wp2_with fail
        go_ret2
        rw [HR.out]
        exact ⟨rfl, HT5.out⟩
      | false =>
        have hR := HR.out
        rw [heq] at hR
        have HR := zH hR
        clear hR heq
        go_wp2_with fail
        go_ret2
        rw [HR.out]
        exact ⟨rfl, HT5.out⟩
theorem text13_walk {s n m cap : Nat} {A : Option Addr} {b : List UInt8} (w : World) (hb : Bs w A m b) (hm : m ≤ 200) (hs : 1 ≤ s ∧ s ≤ 64) (hn : n ≤ 99) :
 Calls Tryz.prog 55 #[fmV (nf 1 s 3), .slice A m cap, .int .i64 (n : Int)] w (TextP w (rtext (nf 1 s 3) b n)) := by
 have hT : ∀ S, S = rfix (nf 1 s 3) n (rchars (nf 1 s 3) 0 b) → rtext (nf 1 s 3) b n = if (nf 1 s 3).right S = true then (S, (rlast (nf 1 s 3) (rbytes (nf 1 s 3) S) b == b) && (decide ((nf 1 s 3).kind ≠ 2) || decide (S.length = n))) else ([], false) := by
  rintro S rfl
  rfl
 have HT := zH hT
 have HBB := zH hb
 have HM := zH hm
 have HS := zH hs
 have HN := zH hn
 have HBL := zH (show b.length = m from hb.1)
 have HRT := zH (fun (W : World) (S : List UInt8) (hl : S.length ≤ 1000) => rright_any (k := 1) (s := s) (c := 3) (t := S) W (by decide) hs hl)
 have HBY := zH (fun (W : World) (S : List UInt8) (hr : (nf 1 s 3).right S = true) => rbytes_any (k := 1) (s := s) (c := 3) (t := S) W (by decide) (by decide) hs hr)
 clear hT hb hm hs hn
 generalize hR : rtext (nf 1 s 3) b n = R at *
 clear hR
 obtain ⟨b3, hb3⟩ : ∃ b3, b3 = w.heap.size := ⟨_, rfl⟩
 have hfv : fmV (nf 1 s 3) = .agg #[.int .i64 1, .int .i64 (s : Int), .int .i64 3] := rfl
 rw [hfv] at HRT HBY ⊢
 clear hfv
 go_enter Tryz.func55, Tryz.ntmps55
 go_upto_region 1 with fail
 have hb0 := Blk.new w 49 #[.int .i64 1, .int .i64 (s : Int), .int .i64 3]
 have ht0 := (Turn.refl nowhere w).alloc (.cells #[.int .i64 1, .int .i64 (s : Int), .int .i64 3] 49)
 generalize (w.alloc (.cells #[.int .i64 1, .int .i64 (s : Int), .int .i64 3] 49)) = w1 at *
 rw [← hb3] at hb0 ⊢
 have HBK := zH hb0
 have HT0 := zH ht0
 clear hb0 ht0 hb3
 obtain ⟨B, hB⟩ : ∃ B, B = w1.heap.size := ⟨_, rfl⟩
 have HB := zH hB
 have hown0 := Own.empty w1 B 5 (Nat.le_of_eq hB)
 have hbel0 : Below B w1 (w1.alloc (.cells #[] 5)) := (Below.refl _ w1).alloc (Nat.le_of_eq hB) _
 rw [← hB] at hown0
 clear hB
 refine wp_region_lit ?_
 refine wR (v := _) rfl (exec_make0 rfl) ?_
 simp only [zz]
 refine wA (.slice (some ⟨w1.heap.size, 0, none⟩) 0 0) ?_
 simp only [zz]
 rw [← HB.out]
 generalize (w1.alloc (.cells #[] 5)) = w2 at *
 have HO0 := zH hown0
 have HB0 := zH hbel0
 clear hown0 hbel0
 go_wp2_with fail
 go_loopg [8, 9] m (fun gk tv i wr => ∃ (k : Nat) (A' : Option Addr) (n' c' : Nat), k + gk = m ∧ i = .int .i64 (k : Int) ∧ tv = .slice A' n' c' ∧ Own wr B 5 (.slice A' n' c') (rchars (nf 1 s 3) 0 (b.take k)) ∧ Below B w1 wr)
 case atStart => exact ⟨0, some ⟨B, 0, none⟩, 0, 0, by omega, rfl, rfl, HO0.out, HB0.out⟩
 case round =>
  obtain ⟨k, A', n', c', hkl, rfl, rfl, hown, hbel⟩ := hrel
  have HKL := zH hkl
  have HO := zH hown
  have HE := zH hbel
  clear hkl hown hbel
  have htw : Turn nowhere w wr := turn_below HT0.out (HE.out.mono (by rw [HB.out]; exact HT0.out.size))
  have HTW := zH htw
  have HBW := zH (bs_turn HBB.out htw)
  have hbk : Blk wr b3 49 #[.int .i64 1, .int .i64 (s : Int), .int .i64 3] := (HE.out.block b3 (by rw [HB.out]; exact HBK.out.lt)).trans HBK.out
  have d0 : wr.cell? ⟨b3, 0, none⟩ = some (.int .i64 1) := hbk.cell 0
  have d1 : wr.cell? ⟨b3, 1, none⟩ = some (.int .i64 (s : Int)) := hbk.cell 1
  have d2 : wr.cell? ⟨b3, 2, none⟩ = some (.int .i64 3) := hbk.cell 2
  have HBKW := zH hbk
  clear htw hbk
  go_upto_region 3 with fail
  refine wp_region_lit ?_
  refine wM (.int .i64 (k : Int)) ?_
  simp only [zz]
  refine wM (.slice A m cap) ?_
  simp only [zz]
  refine wR (v := .int .i64 (m : Int)) (w' := wr) rfl (gx_len rfl rfl Tryz.underlying26) ?_
  simp only [zz]
  by_cases hlt : k < m
  ·refine wR (v := .bool true) (w' := wr) rfl (exec_lss rfl rfl rfl (by omega)) ?_
   simp only [zz]
   have HLT := zH hlt
   clear hlt
   obtain ⟨_, _, hcc⟩ := HBW.out
   obtain ⟨g, off, rfl, hcell⟩ := hcc (by have := HLT.out; omega)
   have hck := hcell k HLT.out
   have htk := rchars_snoc (nf 1 s 3) k 0 b (by rw [HBL.out]; exact HLT.out)
   rw [Nat.zero_add] at htk
   have hlo : (rchars (nf 1 s 3) 0 (b.take k)).length ≤ 400 := by
    have h1 := rchars_len (nf 1 s 3) (b.take k) 0
    rw [List.length_take] at h1
    have := HBL.out
    have := HM.out
    omega
   have HLO := zH hlo
   generalize b.getD k 0 = x at *
   clear hcc hcell hlo
   have HTK := zH htk
   have HCK := zH hck
   clear htk hck
   go_upto_region 5 with fail
   refine wp_region_lit ?_
   refine wM (.slice (some ⟨g, off, none⟩) m cap) ?_
   simp only [zz]
   refine wM (.int .i64 (k : Int)) ?_
   simp only [zz]
   refine wR (v := .pointer (some ⟨g, off + k, none⟩)) (w' := wr) rfl (gx_iaddr (off := off) (n := m) (c := cap) (i := k) (sz := 1) (k := .i64) rfl rfl rfl Tryz.underlying26 size_u8 HLT.out (by omega)) ?_
   simp only [zz]
   refine wR (v := .int .u8 (x.toNat : Int)) (w' := wr) rfl (exec_load1 rfl rfl (by kernel_rfl) HCK.out) ?_
   simp only [zz]
   refine wA (.int .u8 (x.toNat : Int)) ?_
   simp only [zz]
   have HRC := zH (show rch (nf 1 s 3) k x = [unebc x] from rfl)
   have hun := unf_all x
   go_upto_region 11 with fail
   rw [← hun] at HRC
   clear hun
   obtain ⟨wo, rfl⟩ : ∃ wo : World, wo = wr := ⟨_, rfl⟩
   generalize gk = gko at *
   go_wp2_with fail
   go_loopg [12, 13] 128 (fun gk fv sv wq => ∃ j : Nat, j + gk = 128 ∧ sv = .int .i64 (j : Int) ∧ fv = .int .u8 ((unf x j).toNat : Int) ∧ wq = wo)
   case atStart => exact ⟨0, rfl, rfl, rfl, rfl⟩
   case round =>
    obtain ⟨j, hjl, rfl, rfl, hwq⟩ := hrel
    obtain rfl : wo = wr := hwq.symm
    have HJL := zH hjl
    clear hjl hwq
    by_cases hj : j < 128
    ·have y1 : (j : Int) < 128 := by omega
     have hj256 : j < 256 := by omega
     have hus := unf_succ x j
     have HJ := zH hj
     have b0 : (0 : Int) ≤ (j : Int) := by omega
     clear hj
     go_upto_region 15 with fail
     refine wp_region_lit ?_
     refine wM (.int .i64 (j : Int)) ?_
     simp only [zz]
     refine wR (v := .int .u8 ((UInt8.ofNat j).toNat : Int)) (w' := wo) rfl (exec_iu8 hj256 rfl rfl) ?_
     simp only [zz]
     generalize hz : UInt8.ofNat j = z at *
     have HZ := zH hz
     clear hz
     generalize unf x j = u0 at *
     have HUS := zH hus
     clear hus
     refine wpList_call rfl ?_
     intro K1 HK1
     go_wp2_with fail
     refine (sign_walk z wo).mono ?_
     rintro e wq ⟨rfl, hw⟩
     obtain rfl : wo = wq := hw.symm
     refine HK1.out _ _ ?_
     clear HK1
     try simp only [zz]
     cases hsg : sgn.contains z with
     | true =>
       rw [hsg] at HUS
       refine wM (.bool true) ?_
       simp only [zz]
       refine wM (.int .i64 (j : Int)) ?_
       simp only [zz]
       refine wR (v := .int .u8 (z.toNat : Int)) (w' := wo) rfl (by rw [← HZ.out]; exact exec_iu8 hj256 rfl rfl) ?_
       simp only [zz]
       refine wpList_call rfl ?_
       intro K1 HK1
       go_wp2_with fail
       refine (ebcdic_walk z wo).mono ?_
       rintro e wq ⟨rfl, hw⟩
       obtain rfl : wo = wq := hw.symm
       refine HK1.out _ _ ?_
       clear HK1
       try simp only [zz]
       refine wM (.int .u8 (x.toNat : Int)) ?_
       simp only [zz]
       cases heq : ebc z == x with
       | true =>
         rw [heq] at HUS
         refine wR (v := .bool true) (w' := wo) rfl (by rw [← heq]; exact exec_u8eq rfl rfl rfl) ?_
         simp only [zz]
         refine wR (v := .bool true) (w' := wo) rfl (exec_pickT rfl rfl rfl) ?_
         simp only [zz]
         go_upto_region 16 with fail
         refine wp_region_lit ?_
         refine wM (.int .i64 (j : Int)) ?_
         simp only [zz]
         refine wR (v := .int .u8 (z.toNat : Int)) (w' := wo) rfl (by rw [← HZ.out]; exact exec_iu8 hj256 rfl rfl) ?_
         simp only [zz]
         go_wp2_with fail
         go_roundg (gk - 1)
         case measure => have := HJL.out; have := HJ.out; omega
         case rel => exact ⟨j + 1, by have := HJL.out; have := HJ.out; omega, by go_num, by rw [HUS.out]; rfl, rfl⟩
       | false =>
         rw [heq] at HUS
         refine wR (v := .bool false) (w' := wo) rfl (by rw [← heq]; exact exec_u8eq rfl rfl rfl) ?_
         simp only [zz]
         refine wR (v := .bool false) (w' := wo) rfl (exec_pickT rfl rfl rfl) ?_
         simp only [zz]
         go_wp2_with fail
         go_roundg (gk - 1)
         case measure => have := HJL.out; have := HJ.out; omega
         case rel => exact ⟨j + 1, by have := HJL.out; have := HJ.out; omega, by go_num, by rw [HUS.out]; rfl, rfl⟩
     | false =>
       rw [hsg] at HUS
       go_wp2_with fail
       go_roundg (gk - 1)
       case measure => have := HJL.out; have := HJ.out; omega
       case rel => exact ⟨j + 1, by have := HJL.out; have := HJ.out; omega, by go_num, by rw [HUS.out]; rfl, rfl⟩
    ·have hj8 : j = 128 := by have := HJL.out; omega
     subst hj8
     clear hj
     have y1 : ¬ ((128 : Int) < 128) := by omega
     go_upto_region 17 with fail
     clear y1
     generalize unf x 128 = z at *
     refine wp_region_lit ?_
     refine wM (.slice A' n' c') ?_
     simp only [zz]
     refine wM (.int .u8 (z.toNat : Int)) ?_
     simp only [zz]
     refine wR (v := _) rfl (exec_one (z := z) rfl rfl) ?_
     simp only [zz]
     have hone := bs_blk (Blk.new wo 5 (bcs [z]).toArray) (n := 1) rfl (by unfold maxLen; omega)
     have hown1 : Own (wo.alloc (.cells (bcs [z]).toArray 5)) B 5 (.slice A' n' c') (rchars (nf 1 s 3) 0 (b.take k)) := HO.out.alloc _
     refine wpList_append_bytes _ rfl _ _ _ rfl B 5 byteInfo Tryz.underlying26 _ _ rfl hown1 _ 1 1 [z] rfl hone (fun h => by cases h) (by have := HLO.out; omega) (by have h1 := HE.out.size; have h2 := HB.out; simp; omega) ?_
     intro v2 w3 ho2 hb2
     simp only [zz]
     obtain ⟨A2, m2, c2, rfl, _⟩ := ho2.form
     have HO2 := zH ho2
     have HB2 := zH hb2
     clear ho2 hb2
     have b0 : (0 : Int) ≤ (k : Int) := by omega
     have b1 : (k : Int) ≤ 200 := by have := HLT.out; have := HM.out; omega
     clear hone hown1
     go_wp2_with fail
     go_roundg (gko - 1)
     case measure => have := HKL.out; have := HLT.out; omega
     case rel =>
      refine ⟨k + 1, A2, m2, c2, by have := HKL.out; have := HLT.out; omega, by go_num, rfl, ?_, (HE.out.alloc (by have h1 := HE.out.size; have h2 := HB.out; show B ≤ wo.heap.size; omega) _).trans HB2.out⟩
      rw [HTK.out, HRC.out]
      exact HO2.out
  ·refine wR (v := .bool false) (w' := wr) rfl (exec_nlss rfl rfl rfl (by omega)) ?_
   simp only [zz]
   have hkb : b.take k = b := List.take_of_length_le (by have := HKL.out; have := HBL.out; omega)
   have ho := HO.out
   rw [hkb] at ho
   have HO := zH ho
   have hl0 := rchars_len (nf 1 s 3) b 0
   have HL0 := zH (show (rchars (nf 1 s 3) 0 b).length ≤ 400 by have := HBL.out; have := HM.out; omega)
   clear hlt hkb ho hl0
   obtain ⟨S0, hS0⟩ : ∃ S0, S0 = rchars (nf 1 s 3) 0 b := ⟨_, rfl⟩
   rw [← hS0] at HO HL0
   have HS0 := zH hS0
   clear hS0
   go_upto_region 22 with fail
   refine wp_region_lit ?_
   refine wM (.slice A' n' c') ?_
   simp only [zz]
   refine wR (v := strV S0) (w' := wr) rfl (exec_strBs rfl rfl (own_bs HO.out).1) ?_
   simp only [zz]
   refine wA (strV S0) ?_
   simp only [zz]
   have e1 : rfix1 (nf 1 s 3) n S0 = S0 := if_neg fun h => absurd h.1 (show ¬ ((3 : Int) = 2) from by decide)
   have e2 : rfix2 (nf 1 s 3) (S0) = S0 := if_neg fun h => absurd h.1 (show ¬ ((3 : Int) = 2) from by decide)
   have HFS := zH (show S0 = rfix (nf 1 s 3) n (rchars (nf 1 s 3) 0 b) from by
    rw [← HS0.out]
    show S0 = rfix2 (nf 1 s 3) (rfix1 (nf 1 s 3) n S0)
    rw [e1, e2])
   have HTS := zH (HT.out _ HFS.out)
   clear e1 e2
   have HSL := zH (show S0.length ≤ 1000 by have := HL0.out; omega)
   go_upto_region 27 with fail
   clear d1
   refine wp_region_lit ?_
   refine wR (v := .agg #[.int .i64 1, .int .i64 (s : Int), .int .i64 3]) (w' := wr) rfl (exec_load rfl rfl (load_blkForm HBKW.out)) ?_
   simp only [zz]
   refine wM (strV S0) ?_
   simp only [zz]
   refine wpList_call rfl ?_
   intro K1 HK1
   go_wp2_with fail
   refine (HRT.out wr S0 HSL.out).mono ?_
   rintro e w4 ⟨rfl, ht4⟩
   refine HK1.out _ _ ?_
   clear HK1
   try simp only [zz]
   have HT4 := zH (HTW.out.trans ht4 fun _ _ e => e)
   have HBK4 := zH (HBKW.out.turn ht4 fun e => e)
   clear ht4 d0 d2
   cases hrt : (nf 1 s 3).right S0 with
   | false =>
     have hR := HTS.out
     rw [if_neg (by rw [hrt]; decide)] at hR
     clear hrt
     go_wp2_with fail
     go_ret2
     subst hR
     exact ⟨rfl, HT4.out⟩
   | true =>
     have hR := HTS.out
     rw [if_pos hrt] at hR
     have HBYS := zH (HBY.out w4 S0 hrt)
     generalize rbytes (nf 1 s 3) S0 = wv at *
     have HR := zH hR
     clear hrt hR
     go_upto_region 29 with fail
     refine wp_region_lit ?_
     refine wR (v := .agg #[.int .i64 1, .int .i64 (s : Int), .int .i64 3]) (w' := w4) rfl (exec_load rfl rfl (load_blkForm HBK4.out)) ?_
     simp only [zz]
     refine wM (strV S0) ?_
     simp only [zz]
     refine wpList_call rfl ?_
     intro K1 HK1
     go_wp2_with fail
     refine HBYS.out.mono ?_
     rintro e w5 ⟨A5, n5, c5, rfl, ho5, ht5⟩
     refine HK1.out _ _ ?_
     clear HK1
     try simp only [zz]
     have HT5 := zH (HT4.out.trans ht5 fun _ _ e => e)
     have hbk5 := HBK4.out.turn ht5 fun e => e
     have d0 : w5.cell? ⟨b3, 0, none⟩ = some (.int .i64 1) := hbk5.cell 0
     obtain ⟨hbs5, hnc5, hz5⟩ := own_bs ho5
     have HB5 := zH hbs5
     have HNC5 := zH hnc5
     have HZ5 := zH hz5
     have HBb := zH (bs_turn HBB.out HT5.out)
     clear ho5 ht5 hbk5 hbs5 hnc5 hz5
     have hR := HR.out
     rw [show rlast (nf 1 s 3) wv b = wv from rfl] at hR
     have HR := zH hR
     clear hR
     go_upto_region 32 with fail
     refine wp_region_lit ?_
     refine wM (strV S0) ?_
     simp only [zz]
     refine wM (.slice A5 n5 c5) ?_
     simp only [zz]
     refine wR (v := strV wv) (w' := w5) rfl (exec_strBs rfl rfl HB5.out) ?_
     simp only [zz]
     refine wM (.slice A m cap) ?_
     simp only [zz]
     refine wR (v := strV b) (w' := w5) rfl (exec_strBs rfl rfl HBb.out) ?_
     simp only [zz]
     refine wR (v := .bool (wv == b)) (w' := w5) rfl (exec_seql rfl rfl rfl) ?_
     simp only [zz]
     cases heq : (wv == b) with
     | true =>
       have hR := HR.out
       rw [heq] at hR
       have HR := zH hR
       clear hR heq
       go_wp2_with fail
       go_ret2
       rw [HR.out]
       exact ⟨rfl, HT5.out⟩
     | false =>
       have hR := HR.out
       rw [heq] at hR
       have HR := zH hR
       clear hR heq
       go_wp2_with fail
       go_ret2
       rw [HR.out]
       exact ⟨rfl, HT5.out⟩
theorem text21_walk {s n m cap : Nat} {A : Option Addr} {b : List UInt8} (w : World) (hb : Bs w A m b) (hm : m ≤ 200) (hs : 1 ≤ s ∧ s ≤ 64) (hn : n ≤ 99) (hls : ∀ S, S = rfix (nf 2 s 1) n (rchars (nf 2 s 1) 0 b) → (nf 2 s 1).right S = true → m ≤ (rbytes (nf 2 s 1) S).length) :
 Calls Tryz.prog 55 #[fmV (nf 2 s 1), .slice A m cap, .int .i64 (n : Int)] w (TextP w (rtext (nf 2 s 1) b n)) := by
 have hT : ∀ S, S = rfix (nf 2 s 1) n (rchars (nf 2 s 1) 0 b) → rtext (nf 2 s 1) b n = if (nf 2 s 1).right S = true then (S, (rlast (nf 2 s 1) (rbytes (nf 2 s 1) S) b == b) && (decide ((nf 2 s 1).kind ≠ 2) || decide (S.length = n))) else ([], false) := by
  rintro S rfl
  rfl
 have HT := zH hT
 have HBB := zH hb
 have HM := zH hm
 have HS := zH hs
 have HN := zH hn
 have HBL := zH (show b.length = m from hb.1)
 have HLS := zH hls
 clear hls
 have HRT := zH (fun (W : World) (S : List UInt8) (hl : S.length ≤ 1000) => rright_any (k := 2) (s := s) (c := 1) (t := S) W (by decide) hs hl)
 have HBY := zH (fun (W : World) (S : List UInt8) (hr : (nf 2 s 1).right S = true) => rbytes_any (k := 2) (s := s) (c := 1) (t := S) W (by decide) (by decide) hs hr)
 clear hT hb hm hs hn
 generalize hR : rtext (nf 2 s 1) b n = R at *
 clear hR
 obtain ⟨b3, hb3⟩ : ∃ b3, b3 = w.heap.size := ⟨_, rfl⟩
 have hfv : fmV (nf 2 s 1) = .agg #[.int .i64 2, .int .i64 (s : Int), .int .i64 1] := rfl
 rw [hfv] at HRT HBY ⊢
 clear hfv
 go_enter Tryz.func55, Tryz.ntmps55
 go_upto_region 1 with fail
 have hb0 := Blk.new w 49 #[.int .i64 2, .int .i64 (s : Int), .int .i64 1]
 have ht0 := (Turn.refl nowhere w).alloc (.cells #[.int .i64 2, .int .i64 (s : Int), .int .i64 1] 49)
 generalize (w.alloc (.cells #[.int .i64 2, .int .i64 (s : Int), .int .i64 1] 49)) = w1 at *
 rw [← hb3] at hb0 ⊢
 have HBK := zH hb0
 have HT0 := zH ht0
 clear hb0 ht0 hb3
 obtain ⟨B, hB⟩ : ∃ B, B = w1.heap.size := ⟨_, rfl⟩
 have HB := zH hB
 have hown0 := Own.empty w1 B 5 (Nat.le_of_eq hB)
 have hbel0 : Below B w1 (w1.alloc (.cells #[] 5)) := (Below.refl _ w1).alloc (Nat.le_of_eq hB) _
 rw [← hB] at hown0
 clear hB
 refine wp_region_lit ?_
 refine wR (v := _) rfl (exec_make0 rfl) ?_
 simp only [zz]
 refine wA (.slice (some ⟨w1.heap.size, 0, none⟩) 0 0) ?_
 simp only [zz]
 rw [← HB.out]
 generalize (w1.alloc (.cells #[] 5)) = w2 at *
 have HO0 := zH hown0
 have HB0 := zH hbel0
 clear hown0 hbel0
 go_wp2_with fail
 go_loopg [8, 9] m (fun gk tv i wr => ∃ (k : Nat) (A' : Option Addr) (n' c' : Nat), k + gk = m ∧ i = .int .i64 (k : Int) ∧ tv = .slice A' n' c' ∧ Own wr B 5 (.slice A' n' c') (rchars (nf 2 s 1) 0 (b.take k)) ∧ Below B w1 wr)
 case atStart => exact ⟨0, some ⟨B, 0, none⟩, 0, 0, by omega, rfl, rfl, HO0.out, HB0.out⟩
 case round =>
  obtain ⟨k, A', n', c', hkl, rfl, rfl, hown, hbel⟩ := hrel
  have HKL := zH hkl
  have HO := zH hown
  have HE := zH hbel
  clear hkl hown hbel
  have htw : Turn nowhere w wr := turn_below HT0.out (HE.out.mono (by rw [HB.out]; exact HT0.out.size))
  have HTW := zH htw
  have HBW := zH (bs_turn HBB.out htw)
  have hbk : Blk wr b3 49 #[.int .i64 2, .int .i64 (s : Int), .int .i64 1] := (HE.out.block b3 (by rw [HB.out]; exact HBK.out.lt)).trans HBK.out
  have d0 : wr.cell? ⟨b3, 0, none⟩ = some (.int .i64 2) := hbk.cell 0
  have d1 : wr.cell? ⟨b3, 1, none⟩ = some (.int .i64 (s : Int)) := hbk.cell 1
  have d2 : wr.cell? ⟨b3, 2, none⟩ = some (.int .i64 1) := hbk.cell 2
  have HBKW := zH hbk
  clear htw hbk
  go_upto_region 3 with fail
  refine wp_region_lit ?_
  refine wM (.int .i64 (k : Int)) ?_
  simp only [zz]
  refine wM (.slice A m cap) ?_
  simp only [zz]
  refine wR (v := .int .i64 (m : Int)) (w' := wr) rfl (gx_len rfl rfl Tryz.underlying26) ?_
  simp only [zz]
  by_cases hlt : k < m
  ·refine wR (v := .bool true) (w' := wr) rfl (exec_lss rfl rfl rfl (by omega)) ?_
   simp only [zz]
   have HLT := zH hlt
   clear hlt
   obtain ⟨_, _, hcc⟩ := HBW.out
   obtain ⟨g, off, rfl, hcell⟩ := hcc (by have := HLT.out; omega)
   have hck := hcell k HLT.out
   have htk := rchars_snoc (nf 2 s 1) k 0 b (by rw [HBL.out]; exact HLT.out)
   rw [Nat.zero_add] at htk
   have hlo : (rchars (nf 2 s 1) 0 (b.take k)).length ≤ 400 := by
    have h1 := rchars_len (nf 2 s 1) (b.take k) 0
    rw [List.length_take] at h1
    have := HBL.out
    have := HM.out
    omega
   have HLO := zH hlo
   generalize b.getD k 0 = x at *
   clear hcc hcell hlo
   have HTK := zH htk
   have HCK := zH hck
   clear htk hck
   go_upto_region 5 with fail
   refine wp_region_lit ?_
   refine wM (.slice (some ⟨g, off, none⟩) m cap) ?_
   simp only [zz]
   refine wM (.int .i64 (k : Int)) ?_
   simp only [zz]
   refine wR (v := .pointer (some ⟨g, off + k, none⟩)) (w' := wr) rfl (gx_iaddr (off := off) (n := m) (c := cap) (i := k) (sz := 1) (k := .i64) rfl rfl rfl Tryz.underlying26 size_u8 HLT.out (by omega)) ?_
   simp only [zz]
   refine wR (v := .int .u8 (x.toNat : Int)) (w' := wr) rfl (exec_load1 rfl rfl (by kernel_rfl) HCK.out) ?_
   simp only [zz]
   refine wA (.int .u8 (x.toNat : Int)) ?_
   simp only [zz]
   have HRC := zH (show rch (nf 2 s 1) k x = [x] from rfl)
   go_upto_region 7 with fail
   refine wp_region_lit ?_
   refine wM (.slice A' n' c') ?_
   simp only [zz]
   refine wM (.int .u8 (x.toNat : Int)) ?_
   simp only [zz]
   refine wR (v := _) rfl (exec_one (z := x) rfl rfl) ?_
   simp only [zz]
   have hone := bs_blk (Blk.new wr 5 (bcs [x]).toArray) (n := 1) rfl (by unfold maxLen; omega)
   have hown1 : Own (wr.alloc (.cells (bcs [x]).toArray 5)) B 5 (.slice A' n' c') (rchars (nf 2 s 1) 0 (b.take k)) := HO.out.alloc _
   refine wpList_append_bytes _ rfl _ _ _ rfl B 5 byteInfo Tryz.underlying26 _ _ rfl hown1 _ 1 1 [x] rfl hone (fun h => by cases h) (by have := HLO.out; omega) (by have h1 := HE.out.size; have h2 := HB.out; simp; omega) ?_
   intro v2 w3 ho2 hb2
   simp only [zz]
   obtain ⟨A2, m2, c2, rfl, _⟩ := ho2.form
   have HO2 := zH ho2
   have HB2 := zH hb2
   clear ho2 hb2
   have b0 : (0 : Int) ≤ (k : Int) := by omega
   have b1 : (k : Int) ≤ 200 := by have := HLT.out; have := HM.out; omega
   clear hone hown1
   go_wp2_with fail
   go_roundg (gk - 1)
   case measure => have := HKL.out; have := HLT.out; omega
   case rel =>
    refine ⟨k + 1, A2, m2, c2, by have := HKL.out; have := HLT.out; omega, by go_num, rfl, ?_, (HE.out.alloc (by have h1 := HE.out.size; have h2 := HB.out; show B ≤ wr.heap.size; omega) _).trans HB2.out⟩
    rw [HTK.out, HRC.out]
    exact HO2.out
  ·refine wR (v := .bool false) (w' := wr) rfl (exec_nlss rfl rfl rfl (by omega)) ?_
   simp only [zz]
   have hkb : b.take k = b := List.take_of_length_le (by have := HKL.out; have := HBL.out; omega)
   have ho := HO.out
   rw [hkb] at ho
   have HO := zH ho
   have hl0 := rchars_len (nf 2 s 1) b 0
   have HL0 := zH (show (rchars (nf 2 s 1) 0 b).length ≤ 400 by have := HBL.out; have := HM.out; omega)
   clear hlt hkb ho hl0
   obtain ⟨S0, hS0⟩ : ∃ S0, S0 = rchars (nf 2 s 1) 0 b := ⟨_, rfl⟩
   rw [← hS0] at HO HL0
   have HS0 := zH hS0
   clear hS0
   go_upto_region 22 with fail
   refine wp_region_lit ?_
   refine wM (.slice A' n' c') ?_
   simp only [zz]
   refine wR (v := strV S0) (w' := wr) rfl (exec_strBs rfl rfl (own_bs HO.out).1) ?_
   simp only [zz]
   refine wA (strV S0) ?_
   simp only [zz]
   have e1 : rfix1 (nf 2 s 1) n S0 = S0 := if_neg fun h => absurd h.1 (show ¬ ((1 : Int) = 2) from by decide)
   have e2 : rfix2 (nf 2 s 1) (S0) = S0 := if_neg fun h => absurd h.1 (show ¬ ((1 : Int) = 2) from by decide)
   have HFS := zH (show S0 = rfix (nf 2 s 1) n (rchars (nf 2 s 1) 0 b) from by
    rw [← HS0.out]
    show S0 = rfix2 (nf 2 s 1) (rfix1 (nf 2 s 1) n S0)
    rw [e1, e2])
   have HTS := zH (HT.out _ HFS.out)
   clear e1 e2
   have HSL := zH (show S0.length ≤ 1000 by have := HL0.out; omega)
   go_upto_region 27 with fail
   clear d1
   refine wp_region_lit ?_
   refine wR (v := .agg #[.int .i64 2, .int .i64 (s : Int), .int .i64 1]) (w' := wr) rfl (exec_load rfl rfl (load_blkForm HBKW.out)) ?_
   simp only [zz]
   refine wM (strV S0) ?_
   simp only [zz]
   refine wpList_call rfl ?_
   intro K1 HK1
   go_wp2_with fail
   refine (HRT.out wr S0 HSL.out).mono ?_
   rintro e w4 ⟨rfl, ht4⟩
   refine HK1.out _ _ ?_
   clear HK1
   try simp only [zz]
   have HT4 := zH (HTW.out.trans ht4 fun _ _ e => e)
   have HBK4 := zH (HBKW.out.turn ht4 fun e => e)
   clear ht4 d0 d2
   cases hrt : (nf 2 s 1).right S0 with
   | false =>
     have hR := HTS.out
     rw [if_neg (by rw [hrt]; decide)] at hR
     clear hrt
     go_wp2_with fail
     go_ret2
     subst hR
     exact ⟨rfl, HT4.out⟩
   | true =>
     have hR := HTS.out
     rw [if_pos hrt] at hR
     have HBYS := zH (HBY.out w4 S0 hrt)
     have HLB := zH (HLS.out S0 HFS.out hrt)
     generalize rbytes (nf 2 s 1) S0 = wv at *
     have HR := zH hR
     clear hrt hR
     go_upto_region 29 with fail
     refine wp_region_lit ?_
     refine wR (v := .agg #[.int .i64 2, .int .i64 (s : Int), .int .i64 1]) (w' := w4) rfl (exec_load rfl rfl (load_blkForm HBK4.out)) ?_
     simp only [zz]
     refine wM (strV S0) ?_
     simp only [zz]
     refine wpList_call rfl ?_
     intro K1 HK1
     go_wp2_with fail
     refine HBYS.out.mono ?_
     rintro e w5 ⟨A5, n5, c5, rfl, ho5, ht5⟩
     refine HK1.out _ _ ?_
     clear HK1
     try simp only [zz]
     have HT5 := zH (HT4.out.trans ht5 fun _ _ e => e)
     have hbk5 := HBK4.out.turn ht5 fun e => e
     have d0 : w5.cell? ⟨b3, 0, none⟩ = some (.int .i64 2) := hbk5.cell 0
     obtain ⟨hbs5, hnc5, hz5⟩ := own_bs ho5
     have HB5 := zH hbs5
     have HNC5 := zH hnc5
     have HZ5 := zH hz5
     have HBb := zH (bs_turn HBB.out HT5.out)
     clear ho5 ht5 hbk5 hbs5 hnc5 hz5
     go_upto_region 31 with fail
     refine wp_region_lit ?_
     obtain ⟨A6, hsl, hbs6, hz6⟩ : ∃ A6, (∀ (a : Act) (o : Oper) (x y : Operand), o.op = .slice 26 x (some y) none none → a.eval x = .slice A5 n5 c5 → a.eval y = .int .i64 ((n5 - m : Nat) : Int) → (execOp a.eval o).run Tryz.prog w5 = .ok (.value (.slice A6 (n5 - (n5 - m)) (c5 - (n5 - m)))) w5) ∧ Bs w5 A6 (n5 - (n5 - m)) (wv.drop (n5 - m)) ∧ True := bfrom_all HB5.out HZ5.out HNC5.out (by omega)
     refine wM (.slice A5 n5 c5) ?_
     simp only [zz]
     refine wM (.slice A5 n5 c5) ?_
     simp only [zz]
     refine wR (v := .int .i64 (n5 : Int)) (w' := w5) rfl (gx_len rfl rfl Tryz.underlying26) ?_
     simp only [zz]
     refine wM (.slice A m cap) ?_
     simp only [zz]
     refine wR (v := .int .i64 (m : Int)) (w' := w5) rfl (gx_len rfl rfl Tryz.underlying26) ?_
     simp only [zz]
     refine wR (v := .int .i64 ((n5 - m : Nat) : Int)) (w' := w5) rfl (exec_isub rfl rfl rfl (by have h1 := HLB.out; have h2 := HB5.out.1; omega) (by have h2 := HB5.out.2.1; unfold maxLen at h2; omega)) ?_
     simp only [zz]
     refine wR (v := .slice A6 (n5 - (n5 - m)) (c5 - (n5 - m))) (w' := w5) rfl (hsl _ _ _ _ rfl rfl rfl) ?_
     simp only [zz]
     refine wA (.slice A6 (n5 - (n5 - m)) (c5 - (n5 - m))) ?_
     simp only [zz]
     have hlst : wv.drop (n5 - m) = wv.drop (wv.length - b.length) := by rw [HB5.out.1, HBL.out]
     rw [hlst] at hbs6
     have HB6 := zH hbs6
     clear hsl hbs6 hz6 hlst
     generalize hlw : wv.drop (wv.length - b.length) = lw at *
     have hR := HR.out
     rw [show rlast (nf 2 s 1) wv b = lw from hlw] at hR
     have HR := zH hR
     clear hR hlw
     go_upto_region 32 with fail
     refine wp_region_lit ?_
     refine wM (strV S0) ?_
     simp only [zz]
     refine wM (.slice A6 (n5 - (n5 - m)) (c5 - (n5 - m))) ?_
     simp only [zz]
     refine wR (v := strV lw) (w' := w5) rfl (exec_strBs rfl rfl HB6.out) ?_
     simp only [zz]
     refine wM (.slice A m cap) ?_
     simp only [zz]
     refine wR (v := strV b) (w' := w5) rfl (exec_strBs rfl rfl HBb.out) ?_
     simp only [zz]
     refine wR (v := .bool (lw == b)) (w' := w5) rfl (exec_seql rfl rfl rfl) ?_
     simp only [zz]
     cases heq : (lw == b) with
     | true =>
       have hR := HR.out
       rw [heq] at hR
       have HR := zH hR
       clear hR heq
       refine wM (.bool true) ?_
       simp only [zz]
       refine wR (v := .pointer (some ⟨b3, 0, none⟩)) (w' := w5) rfl (exec_field (off := 0) (d := 0) rfl rfl (by kernel_rfl)) ?_
       simp only [zz]
       refine wR (v := .int .i64 2) (w' := w5) rfl (exec_load1 rfl rfl (by kernel_rfl) d0) ?_
       simp only [zz]
       refine wR (v := .bool false) (w' := w5) rfl (exec_ineq rfl rfl rfl (by decide)) ?_
       simp only [zz]
       refine wM (.bool false) ?_
       simp only [zz]
       refine wM (strV S0) ?_
       simp only [zz]
       refine wR (v := .int .i64 (S0.length : Int)) (w' := w5) rfl (exec_slen rfl rfl) ?_
       simp only [zz]
       refine wM (.int .i64 (n : Int)) ?_
       simp only [zz]
       refine wR (v := .bool (decide (S0.length = n))) (w' := w5) rfl (exec_ieq rfl rfl rfl (by rw [Bool.eq_iff_iff, beq_iff_eq, decide_eq_true_eq]; omega)) ?_
       simp only [zz]
       refine wR (v := .bool (decide (S0.length = n))) (w' := w5) rfl (exec_pickF rfl rfl rfl) ?_
       simp only [zz]
       refine wR (v := .bool (decide (S0.length = n))) (w' := w5) rfl (exec_pickT rfl rfl rfl) ?_
       simp only [zz]
       generalize decide (S0.length = n) = dl at *
       go_wp2_with fail
       go_ret2
       rw [HR.out]
       exact ⟨rfl, HT5.out⟩
     | false =>
       have hR := HR.out
       rw [heq] at hR
       have HR := zH hR
       clear hR heq
       go_wp2_with fail
       go_ret2
       rw [HR.out]
       exact ⟨rfl, HT5.out⟩
theorem text22_walk {s n m cap : Nat} {A : Option Addr} {b : List UInt8} (w : World) (hb : Bs w A m b) (hm : m ≤ 200) (hs : 1 ≤ s ∧ s ≤ 64) (hn : n ≤ 99) (hls : ∀ S, S = rfix (nf 2 s 2) n (rchars (nf 2 s 2) 0 b) → (nf 2 s 2).right S = true → m ≤ (rbytes (nf 2 s 2) S).length) :
 Calls Tryz.prog 55 #[fmV (nf 2 s 2), .slice A m cap, .int .i64 (n : Int)] w (TextP w (rtext (nf 2 s 2) b n)) := by
 have hT : ∀ S, S = rfix (nf 2 s 2) n (rchars (nf 2 s 2) 0 b) → rtext (nf 2 s 2) b n = if (nf 2 s 2).right S = true then (S, (rlast (nf 2 s 2) (rbytes (nf 2 s 2) S) b == b) && (decide ((nf 2 s 2).kind ≠ 2) || decide (S.length = n))) else ([], false) := by
  rintro S rfl
  rfl
 have HT := zH hT
 have HBB := zH hb
 have HM := zH hm
 have HS := zH hs
 have HN := zH hn
 have HBL := zH (show b.length = m from hb.1)
 have HLS := zH hls
 clear hls
 have HRT := zH (fun (W : World) (S : List UInt8) (hl : S.length ≤ 1000) => rright_any (k := 2) (s := s) (c := 2) (t := S) W (by decide) hs hl)
 have HBY := zH (fun (W : World) (S : List UInt8) (hr : (nf 2 s 2).right S = true) => rbytes_any (k := 2) (s := s) (c := 2) (t := S) W (by decide) (by decide) hs hr)
 clear hT hb hm hs hn
 generalize hR : rtext (nf 2 s 2) b n = R at *
 clear hR
 obtain ⟨b3, hb3⟩ : ∃ b3, b3 = w.heap.size := ⟨_, rfl⟩
 have hfv : fmV (nf 2 s 2) = .agg #[.int .i64 2, .int .i64 (s : Int), .int .i64 2] := rfl
 rw [hfv] at HRT HBY ⊢
 clear hfv
 go_enter Tryz.func55, Tryz.ntmps55
 go_upto_region 1 with fail
 have hb0 := Blk.new w 49 #[.int .i64 2, .int .i64 (s : Int), .int .i64 2]
 have ht0 := (Turn.refl nowhere w).alloc (.cells #[.int .i64 2, .int .i64 (s : Int), .int .i64 2] 49)
 generalize (w.alloc (.cells #[.int .i64 2, .int .i64 (s : Int), .int .i64 2] 49)) = w1 at *
 rw [← hb3] at hb0 ⊢
 have HBK := zH hb0
 have HT0 := zH ht0
 clear hb0 ht0 hb3
 obtain ⟨B, hB⟩ : ∃ B, B = w1.heap.size := ⟨_, rfl⟩
 have HB := zH hB
 have hown0 := Own.empty w1 B 5 (Nat.le_of_eq hB)
 have hbel0 : Below B w1 (w1.alloc (.cells #[] 5)) := (Below.refl _ w1).alloc (Nat.le_of_eq hB) _
 rw [← hB] at hown0
 clear hB
 refine wp_region_lit ?_
 refine wR (v := _) rfl (exec_make0 rfl) ?_
 simp only [zz]
 refine wA (.slice (some ⟨w1.heap.size, 0, none⟩) 0 0) ?_
 simp only [zz]
 rw [← HB.out]
 generalize (w1.alloc (.cells #[] 5)) = w2 at *
 have HO0 := zH hown0
 have HB0 := zH hbel0
 clear hown0 hbel0
 go_wp2_with fail
 go_loopg [8, 9] m (fun gk tv i wr => ∃ (k : Nat) (A' : Option Addr) (n' c' : Nat), k + gk = m ∧ i = .int .i64 (k : Int) ∧ tv = .slice A' n' c' ∧ Own wr B 5 (.slice A' n' c') (rchars (nf 2 s 2) 0 (b.take k)) ∧ Below B w1 wr)
 case atStart => exact ⟨0, some ⟨B, 0, none⟩, 0, 0, by omega, rfl, rfl, HO0.out, HB0.out⟩
 case round =>
  obtain ⟨k, A', n', c', hkl, rfl, rfl, hown, hbel⟩ := hrel
  have HKL := zH hkl
  have HO := zH hown
  have HE := zH hbel
  clear hkl hown hbel
  have htw : Turn nowhere w wr := turn_below HT0.out (HE.out.mono (by rw [HB.out]; exact HT0.out.size))
  have HTW := zH htw
  have HBW := zH (bs_turn HBB.out htw)
  have hbk : Blk wr b3 49 #[.int .i64 2, .int .i64 (s : Int), .int .i64 2] := (HE.out.block b3 (by rw [HB.out]; exact HBK.out.lt)).trans HBK.out
  have d0 : wr.cell? ⟨b3, 0, none⟩ = some (.int .i64 2) := hbk.cell 0
  have d1 : wr.cell? ⟨b3, 1, none⟩ = some (.int .i64 (s : Int)) := hbk.cell 1
  have d2 : wr.cell? ⟨b3, 2, none⟩ = some (.int .i64 2) := hbk.cell 2
  have HBKW := zH hbk
  clear htw hbk
  go_upto_region 3 with fail
  refine wp_region_lit ?_
  refine wM (.int .i64 (k : Int)) ?_
  simp only [zz]
  refine wM (.slice A m cap) ?_
  simp only [zz]
  refine wR (v := .int .i64 (m : Int)) (w' := wr) rfl (gx_len rfl rfl Tryz.underlying26) ?_
  simp only [zz]
  by_cases hlt : k < m
  ·refine wR (v := .bool true) (w' := wr) rfl (exec_lss rfl rfl rfl (by omega)) ?_
   simp only [zz]
   have HLT := zH hlt
   clear hlt
   obtain ⟨_, _, hcc⟩ := HBW.out
   obtain ⟨g, off, rfl, hcell⟩ := hcc (by have := HLT.out; omega)
   have hck := hcell k HLT.out
   have htk := rchars_snoc (nf 2 s 2) k 0 b (by rw [HBL.out]; exact HLT.out)
   rw [Nat.zero_add] at htk
   have hlo : (rchars (nf 2 s 2) 0 (b.take k)).length ≤ 400 := by
    have h1 := rchars_len (nf 2 s 2) (b.take k) 0
    rw [List.length_take] at h1
    have := HBL.out
    have := HM.out
    omega
   have HLO := zH hlo
   generalize b.getD k 0 = x at *
   clear hcc hcell hlo
   have HTK := zH htk
   have HCK := zH hck
   clear htk hck
   go_upto_region 5 with fail
   refine wp_region_lit ?_
   refine wM (.slice (some ⟨g, off, none⟩) m cap) ?_
   simp only [zz]
   refine wM (.int .i64 (k : Int)) ?_
   simp only [zz]
   refine wR (v := .pointer (some ⟨g, off + k, none⟩)) (w' := wr) rfl (gx_iaddr (off := off) (n := m) (c := cap) (i := k) (sz := 1) (k := .i64) rfl rfl rfl Tryz.underlying26 size_u8 HLT.out (by omega)) ?_
   simp only [zz]
   refine wR (v := .int .u8 (x.toNat : Int)) (w' := wr) rfl (exec_load1 rfl rfl (by kernel_rfl) HCK.out) ?_
   simp only [zz]
   refine wA (.int .u8 (x.toNat : Int)) ?_
   simp only [zz]
   have HRC := zH (show rch (nf 2 s 2) k x = [hexs.getD (x.toNat / 16) 0, hexs.getD (x.toNat % 16) 0] from rfl)
   have hx1 : x.toNat / 16 < hexs.length := by have := x.toNat_lt; show _ < 16; omega
   have hx2 : x.toNat % 16 < hexs.length := by show _ < 16; omega
   have HX1 := zH hx1
   have HX2 := zH hx2
   clear hx1 hx2
   go_upto_region 9 with fail
   generalize hy : hexs.getD (x.toNat / 16) 0 = y at *
   generalize hz : hexs.getD (x.toNat % 16) 0 = z at *
   have HY := zH hy
   have HZ := zH hz
   clear hy hz
   refine wp_region_alw (fun _ => True) (by kernel_rfl) ?_
   refine aT (i := 0) (v := .slice A' n' c') rfl (by kernel_rfl) (by kernel_rfl) (fun W hW => exec_move rfl rfl) trivial ?_
   simp only [zz]
   refine aT (i := 1) (v := .int .u8 (x.toNat : Int)) rfl (by kernel_rfl) (by kernel_rfl) (fun W hW => exec_move rfl rfl) trivial ?_
   simp only [zz]
   refine aT (i := 2) (v := .int .u8 ((x.toNat / 16 : Nat) : Int)) rfl (by kernel_rfl) (by kernel_rfl) (fun W hW => exec_q16 rfl rfl) trivial ?_
   simp only [zz]
   refine aT (i := 3) (v := .int .u8 (y.toNat : Int)) rfl (by kernel_rfl) (by kernel_rfl) (fun W hW => by rw [← HY.out]; exact exec_sidx (l := hexs) rfl rfl rfl HX1.out) trivial ?_
   simp only [zz]
   refine aT (i := 4) (v := .int .u8 (x.toNat : Int)) rfl (by kernel_rfl) (by kernel_rfl) (fun W hW => exec_move rfl rfl) trivial ?_
   simp only [zz]
   refine aT (i := 5) (v := .int .u8 ((x.toNat % 16 : Nat) : Int)) rfl (by kernel_rfl) (by kernel_rfl) (fun W hW => exec_r16 rfl rfl) trivial ?_
   simp only [zz]
   refine aT (i := 6) (v := .int .u8 (z.toNat : Int)) rfl (by kernel_rfl) (by kernel_rfl) (fun W hW => by rw [← HZ.out]; exact exec_sidx (l := hexs) rfl rfl rfl HX2.out) trivial ?_
   simp only [zz]
   refine alw_step (i := 7) (by kernel_rfl) rfl rfl ?_
   intro K1 HK1
   refine wp_run (exec_two (u := y) (v := z) rfl rfl rfl) ?_
   refine HK1.out _ _ ⟨trivial, ?_⟩
   clear HK1
   simp only [zz]
   refine alw_step (i := 8) (by kernel_rfl) rfl rfl ?_
   intro K1 HK1
   have hone := bs_blk (Blk.new wr.drew 5 (bcs [y, z]).toArray) (n := 2) rfl (by unfold maxLen; omega)
   have hown1 : Own (wr.drew.alloc (.cells (bcs [y, z]).toArray 5)) B 5 (.slice A' n' c') (rchars (nf 2 s 2) 0 (b.take k)) := World.ownsRow.alloc (w := wr.drew) HO.out _
   refine wp_append_bytes _ _ _ _ rfl B 5 byteInfo Tryz.underlying26 _ _ rfl hown1 _ 2 2 [y, z] rfl hone (fun h => by cases h) (by have := HLO.out; omega) (by have h1 := HE.out.size; have h2 := HB.out; simp; omega) ?_
   intro v2 w3 ho2 hb2
   refine HK1.out _ _ ⟨trivial, ?_⟩
   clear HK1
   simp only [zz]
   obtain ⟨A2, m2, c2, rfl, _⟩ := ho2.form
   have HO2 := zH ho2
   have HB2 := zH hb2
   clear ho2 hb2
   have b0 : (0 : Int) ≤ (k : Int) := by omega
   have b1 : (k : Int) ≤ 200 := by have := HLT.out; have := HM.out; omega
   clear hone hown1
   refine aT (i := 9) (v := .slice A2 m2 c2) rfl (by kernel_rfl) (by kernel_rfl) (fun W hW => gx_assign rfl rfl) trivial ?_
   simp only [zz]
   refine alw_done (by kernel_rfl) ?_
   refine NoPanic.normal ?_
   go_wp2_with fail
   go_roundg (gk - 1)
   case measure => have := HKL.out; have := HLT.out; omega
   case rel =>
    refine ⟨k + 1, A2, m2, c2, by have := HKL.out; have := HLT.out; omega, by go_num, rfl, ?_, (HE.out.drew.alloc (by have h1 := HE.out.size; have h2 := HB.out; show B ≤ wr.heap.size; omega) _).trans HB2.out⟩
    rw [HTK.out, HRC.out]
    exact HO2.out
  ·refine wR (v := .bool false) (w' := wr) rfl (exec_nlss rfl rfl rfl (by omega)) ?_
   simp only [zz]
   have hkb : b.take k = b := List.take_of_length_le (by have := HKL.out; have := HBL.out; omega)
   have ho := HO.out
   rw [hkb] at ho
   have HO := zH ho
   have hl0 := rchars_len (nf 2 s 2) b 0
   have HL0 := zH (show (rchars (nf 2 s 2) 0 b).length ≤ 400 by have := HBL.out; have := HM.out; omega)
   clear hlt hkb ho hl0
   obtain ⟨S0, hS0⟩ : ∃ S0, S0 = rchars (nf 2 s 2) 0 b := ⟨_, rfl⟩
   rw [← hS0] at HO HL0
   have HS0 := zH hS0
   clear hS0
   go_upto_region 22 with fail
   refine wp_region_lit ?_
   refine wM (.slice A' n' c') ?_
   simp only [zz]
   refine wR (v := strV S0) (w' := wr) rfl (exec_strBs rfl rfl (own_bs HO.out).1) ?_
   simp only [zz]
   refine wA (strV S0) ?_
   simp only [zz]
   go_upto_region 23 with fail
   refine wp_region_lit ?_
   by_cases hX : S0.length = n + 1
   ·have HX := zH hX
    refine wR (v := .pointer (some ⟨b3, 2, none⟩)) (w' := wr) rfl (exec_field (off := 0) (d := 2) rfl rfl (by kernel_rfl)) ?_
    simp only [zz]
    refine wR (v := .int .i64 2) (w' := wr) rfl (exec_load1 rfl rfl (by kernel_rfl) d2) ?_
    simp only [zz]
    refine wR (v := .bool true) (w' := wr) rfl (exec_ieq rfl rfl rfl (by decide)) ?_
    simp only [zz]
    refine wM (.bool true) ?_
    simp only [zz]
    refine wR (v := .pointer (some ⟨b3, 0, none⟩)) (w' := wr) rfl (exec_field (off := 0) (d := 0) rfl rfl (by kernel_rfl)) ?_
    simp only [zz]
    refine wR (v := .int .i64 2) (w' := wr) rfl (exec_load1 rfl rfl (by kernel_rfl) d0) ?_
    simp only [zz]
    refine wR (v := .bool false) (w' := wr) rfl (exec_ieq rfl rfl rfl (by decide)) ?_
    simp only [zz]
    refine wM (.bool false) ?_
    simp only [zz]
    refine wR (v := .pointer (some ⟨b3, 0, none⟩)) (w' := wr) rfl (exec_field (off := 0) (d := 0) rfl rfl (by kernel_rfl)) ?_
    simp only [zz]
    refine wR (v := .int .i64 2) (w' := wr) rfl (exec_load1 rfl rfl (by kernel_rfl) d0) ?_
    simp only [zz]
    refine wR (v := .bool true) (w' := wr) rfl (exec_ieq rfl rfl rfl (by decide)) ?_
    simp only [zz]
    refine wR (v := .bool true) (w' := wr) rfl (exec_pickF rfl rfl rfl) ?_
    simp only [zz]
    refine wR (v := .bool true) (w' := wr) rfl (exec_pickT rfl rfl rfl) ?_
    simp only [zz]
    refine wM (.bool true) ?_
    simp only [zz]
    refine wM (strV S0) ?_
    simp only [zz]
    refine wR (v := .int .i64 (S0.length : Int)) (w' := wr) rfl (exec_slen rfl rfl) ?_
    simp only [zz]
    refine wM (.int .i64 (n : Int)) ?_
    simp only [zz]
    refine wR (v := .int .i64 ((n + 1 : Nat) : Int)) (w' := wr) rfl (exec_iadd rfl rfl rfl (by omega) (by have := HN.out; omega)) ?_
    simp only [zz]
    refine wR (v := .bool true) (w' := wr) rfl (exec_ieq rfl rfl rfl (by have := HX.out; first | (simp; omega) | (rw [beq_eq_false_iff_ne]; omega))) ?_
    simp only [zz]
    refine wR (v := .bool true) (w' := wr) rfl (exec_pickT rfl rfl rfl) ?_
    simp only [zz]
    obtain ⟨S, hSd⟩ : ∃ S, S = S0.drop 1 := ⟨_, rfl⟩
    have HSD := zH hSd
    clear hSd
    go_upto_region 24 with fail
    refine wp_region_lit ?_
    refine wM (strV S0) ?_
    simp only [zz]
    refine wR (v := strV S) (w' := wr) rfl (by rw [HSD.out]; exact exec_sfrom1 rfl rfl (by have := HX.out; omega)) ?_
    simp only [zz]
    refine wA (strV S) ?_
    simp only [zz]
    have e1 : rfix1 (nf 2 s 2) n S0 = S0.drop 1 := if_pos ⟨rfl, .inr rfl, HX.out⟩
    have e2 : rfix2 (nf 2 s 2) (S0.drop 1) = S0.drop 1 := if_neg fun h => absurd h.2.1 (show ¬ ((2 : Int) = 5) from by decide)
    have HFS := zH (show S = rfix (nf 2 s 2) n (rchars (nf 2 s 2) 0 b) from by
     rw [← HS0.out]
     rw [HSD.out]
     show S0.drop 1 = rfix2 (nf 2 s 2) (rfix1 (nf 2 s 2) n S0)
     rw [e1, e2])
    have HTS := zH (HT.out _ HFS.out)
    clear e1 e2
    clear hX
    have HSL := zH (show S.length ≤ 1000 by rw [HSD.out, List.length_drop]; have := HL0.out; omega)
    go_upto_region 27 with fail
    clear d1
    refine wp_region_lit ?_
    refine wR (v := .agg #[.int .i64 2, .int .i64 (s : Int), .int .i64 2]) (w' := wr) rfl (exec_load rfl rfl (load_blkForm HBKW.out)) ?_
    simp only [zz]
    refine wM (strV S) ?_
    simp only [zz]
    refine wpList_call rfl ?_
    intro K1 HK1
    go_wp2_with fail
    refine (HRT.out wr S HSL.out).mono ?_
    rintro e w4 ⟨rfl, ht4⟩
    refine HK1.out _ _ ?_
    clear HK1
    try simp only [zz]
    have HT4 := zH (HTW.out.trans ht4 fun _ _ e => e)
    have HBK4 := zH (HBKW.out.turn ht4 fun e => e)
    clear ht4 d0 d2
    cases hrt : (nf 2 s 2).right S with
    | false =>
      have hR := HTS.out
      rw [if_neg (by rw [hrt]; decide)] at hR
      clear hrt
      go_wp2_with fail
      go_ret2
      subst hR
      exact ⟨rfl, HT4.out⟩
    | true =>
      have hR := HTS.out
      rw [if_pos hrt] at hR
      have HBYS := zH (HBY.out w4 S hrt)
      have HLB := zH (HLS.out S HFS.out hrt)
      generalize rbytes (nf 2 s 2) S = wv at *
      have HR := zH hR
      clear hrt hR
      go_upto_region 29 with fail
      refine wp_region_lit ?_
      refine wR (v := .agg #[.int .i64 2, .int .i64 (s : Int), .int .i64 2]) (w' := w4) rfl (exec_load rfl rfl (load_blkForm HBK4.out)) ?_
      simp only [zz]
      refine wM (strV S) ?_
      simp only [zz]
      refine wpList_call rfl ?_
      intro K1 HK1
      go_wp2_with fail
      refine HBYS.out.mono ?_
      rintro e w5 ⟨A5, n5, c5, rfl, ho5, ht5⟩
      refine HK1.out _ _ ?_
      clear HK1
      try simp only [zz]
      have HT5 := zH (HT4.out.trans ht5 fun _ _ e => e)
      have hbk5 := HBK4.out.turn ht5 fun e => e
      have d0 : w5.cell? ⟨b3, 0, none⟩ = some (.int .i64 2) := hbk5.cell 0
      obtain ⟨hbs5, hnc5, hz5⟩ := own_bs ho5
      have HB5 := zH hbs5
      have HNC5 := zH hnc5
      have HZ5 := zH hz5
      have HBb := zH (bs_turn HBB.out HT5.out)
      clear ho5 ht5 hbk5 hbs5 hnc5 hz5
      go_upto_region 31 with fail
      refine wp_region_lit ?_
      obtain ⟨A6, hsl, hbs6, hz6⟩ : ∃ A6, (∀ (a : Act) (o : Oper) (x y : Operand), o.op = .slice 26 x (some y) none none → a.eval x = .slice A5 n5 c5 → a.eval y = .int .i64 ((n5 - m : Nat) : Int) → (execOp a.eval o).run Tryz.prog w5 = .ok (.value (.slice A6 (n5 - (n5 - m)) (c5 - (n5 - m)))) w5) ∧ Bs w5 A6 (n5 - (n5 - m)) (wv.drop (n5 - m)) ∧ True := bfrom_all HB5.out HZ5.out HNC5.out (by omega)
      refine wM (.slice A5 n5 c5) ?_
      simp only [zz]
      refine wM (.slice A5 n5 c5) ?_
      simp only [zz]
      refine wR (v := .int .i64 (n5 : Int)) (w' := w5) rfl (gx_len rfl rfl Tryz.underlying26) ?_
      simp only [zz]
      refine wM (.slice A m cap) ?_
      simp only [zz]
      refine wR (v := .int .i64 (m : Int)) (w' := w5) rfl (gx_len rfl rfl Tryz.underlying26) ?_
      simp only [zz]
      refine wR (v := .int .i64 ((n5 - m : Nat) : Int)) (w' := w5) rfl (exec_isub rfl rfl rfl (by have h1 := HLB.out; have h2 := HB5.out.1; omega) (by have h2 := HB5.out.2.1; unfold maxLen at h2; omega)) ?_
      simp only [zz]
      refine wR (v := .slice A6 (n5 - (n5 - m)) (c5 - (n5 - m))) (w' := w5) rfl (hsl _ _ _ _ rfl rfl rfl) ?_
      simp only [zz]
      refine wA (.slice A6 (n5 - (n5 - m)) (c5 - (n5 - m))) ?_
      simp only [zz]
      have hlst : wv.drop (n5 - m) = wv.drop (wv.length - b.length) := by rw [HB5.out.1, HBL.out]
      rw [hlst] at hbs6
      have HB6 := zH hbs6
      clear hsl hbs6 hz6 hlst
      generalize hlw : wv.drop (wv.length - b.length) = lw at *
      have hR := HR.out
      rw [show rlast (nf 2 s 2) wv b = lw from hlw] at hR
      have HR := zH hR
      clear hR hlw
      go_upto_region 32 with fail
      refine wp_region_lit ?_
      refine wM (strV S) ?_
      simp only [zz]
      refine wM (.slice A6 (n5 - (n5 - m)) (c5 - (n5 - m))) ?_
      simp only [zz]
      refine wR (v := strV lw) (w' := w5) rfl (exec_strBs rfl rfl HB6.out) ?_
      simp only [zz]
      refine wM (.slice A m cap) ?_
      simp only [zz]
      refine wR (v := strV b) (w' := w5) rfl (exec_strBs rfl rfl HBb.out) ?_
      simp only [zz]
      refine wR (v := .bool (lw == b)) (w' := w5) rfl (exec_seql rfl rfl rfl) ?_
      simp only [zz]
      cases heq : (lw == b) with
      | true =>
        have hR := HR.out
        rw [heq] at hR
        have HR := zH hR
        clear hR heq
        refine wM (.bool true) ?_
        simp only [zz]
        refine wR (v := .pointer (some ⟨b3, 0, none⟩)) (w' := w5) rfl (exec_field (off := 0) (d := 0) rfl rfl (by kernel_rfl)) ?_
        simp only [zz]
        refine wR (v := .int .i64 2) (w' := w5) rfl (exec_load1 rfl rfl (by kernel_rfl) d0) ?_
        simp only [zz]
        refine wR (v := .bool false) (w' := w5) rfl (exec_ineq rfl rfl rfl (by decide)) ?_
        simp only [zz]
        refine wM (.bool false) ?_
        simp only [zz]
        refine wM (strV S) ?_
        simp only [zz]
        refine wR (v := .int .i64 (S.length : Int)) (w' := w5) rfl (exec_slen rfl rfl) ?_
        simp only [zz]
        refine wM (.int .i64 (n : Int)) ?_
        simp only [zz]
        refine wR (v := .bool (decide (S.length = n))) (w' := w5) rfl (exec_ieq rfl rfl rfl (by rw [Bool.eq_iff_iff, beq_iff_eq, decide_eq_true_eq]; omega)) ?_
        simp only [zz]
        refine wR (v := .bool (decide (S.length = n))) (w' := w5) rfl (exec_pickF rfl rfl rfl) ?_
        simp only [zz]
        refine wR (v := .bool (decide (S.length = n))) (w' := w5) rfl (exec_pickT rfl rfl rfl) ?_
        simp only [zz]
        generalize decide (S.length = n) = dl at *
        go_wp2_with fail
        go_ret2
        rw [HR.out]
        exact ⟨rfl, HT5.out⟩
      | false =>
        have hR := HR.out
        rw [heq] at hR
        have HR := zH hR
        clear hR heq
        go_wp2_with fail
        go_ret2
        rw [HR.out]
        exact ⟨rfl, HT5.out⟩
   ·have HX := zH hX
    refine wR (v := .pointer (some ⟨b3, 2, none⟩)) (w' := wr) rfl (exec_field (off := 0) (d := 2) rfl rfl (by kernel_rfl)) ?_
    simp only [zz]
    refine wR (v := .int .i64 2) (w' := wr) rfl (exec_load1 rfl rfl (by kernel_rfl) d2) ?_
    simp only [zz]
    refine wR (v := .bool true) (w' := wr) rfl (exec_ieq rfl rfl rfl (by decide)) ?_
    simp only [zz]
    refine wM (.bool true) ?_
    simp only [zz]
    refine wR (v := .pointer (some ⟨b3, 0, none⟩)) (w' := wr) rfl (exec_field (off := 0) (d := 0) rfl rfl (by kernel_rfl)) ?_
    simp only [zz]
    refine wR (v := .int .i64 2) (w' := wr) rfl (exec_load1 rfl rfl (by kernel_rfl) d0) ?_
    simp only [zz]
    refine wR (v := .bool false) (w' := wr) rfl (exec_ieq rfl rfl rfl (by decide)) ?_
    simp only [zz]
    refine wM (.bool false) ?_
    simp only [zz]
    refine wR (v := .pointer (some ⟨b3, 0, none⟩)) (w' := wr) rfl (exec_field (off := 0) (d := 0) rfl rfl (by kernel_rfl)) ?_
    simp only [zz]
    refine wR (v := .int .i64 2) (w' := wr) rfl (exec_load1 rfl rfl (by kernel_rfl) d0) ?_
    simp only [zz]
    refine wR (v := .bool true) (w' := wr) rfl (exec_ieq rfl rfl rfl (by decide)) ?_
    simp only [zz]
    refine wR (v := .bool true) (w' := wr) rfl (exec_pickF rfl rfl rfl) ?_
    simp only [zz]
    refine wR (v := .bool true) (w' := wr) rfl (exec_pickT rfl rfl rfl) ?_
    simp only [zz]
    refine wM (.bool true) ?_
    simp only [zz]
    refine wM (strV S0) ?_
    simp only [zz]
    refine wR (v := .int .i64 (S0.length : Int)) (w' := wr) rfl (exec_slen rfl rfl) ?_
    simp only [zz]
    refine wM (.int .i64 (n : Int)) ?_
    simp only [zz]
    refine wR (v := .int .i64 ((n + 1 : Nat) : Int)) (w' := wr) rfl (exec_iadd rfl rfl rfl (by omega) (by have := HN.out; omega)) ?_
    simp only [zz]
    refine wR (v := .bool false) (w' := wr) rfl (exec_ieq rfl rfl rfl (by have := HX.out; first | (simp; omega) | (rw [beq_eq_false_iff_ne]; omega))) ?_
    simp only [zz]
    refine wR (v := .bool false) (w' := wr) rfl (exec_pickT rfl rfl rfl) ?_
    simp only [zz]
    have e1 : rfix1 (nf 2 s 2) n S0 = S0 := if_neg fun h => HX.out h.2.2
    have e2 : rfix2 (nf 2 s 2) (S0) = S0 := if_neg fun h => absurd h.2.1 (show ¬ ((2 : Int) = 5) from by decide)
    have HFS := zH (show S0 = rfix (nf 2 s 2) n (rchars (nf 2 s 2) 0 b) from by
     rw [← HS0.out]
     show S0 = rfix2 (nf 2 s 2) (rfix1 (nf 2 s 2) n S0)
     rw [e1, e2])
    have HTS := zH (HT.out _ HFS.out)
    clear e1 e2
    clear hX
    have HSL := zH (show S0.length ≤ 1000 by have := HL0.out; omega)
    go_upto_region 27 with fail
    clear d1
    refine wp_region_lit ?_
    refine wR (v := .agg #[.int .i64 2, .int .i64 (s : Int), .int .i64 2]) (w' := wr) rfl (exec_load rfl rfl (load_blkForm HBKW.out)) ?_
    simp only [zz]
    refine wM (strV S0) ?_
    simp only [zz]
    refine wpList_call rfl ?_
    intro K1 HK1
    go_wp2_with fail
    refine (HRT.out wr S0 HSL.out).mono ?_
    rintro e w4 ⟨rfl, ht4⟩
    refine HK1.out _ _ ?_
    clear HK1
    try simp only [zz]
    have HT4 := zH (HTW.out.trans ht4 fun _ _ e => e)
    have HBK4 := zH (HBKW.out.turn ht4 fun e => e)
    clear ht4 d0 d2
    cases hrt : (nf 2 s 2).right S0 with
    | false =>
      have hR := HTS.out
      rw [if_neg (by rw [hrt]; decide)] at hR
      clear hrt
      go_wp2_with fail
      go_ret2
      subst hR
      exact ⟨rfl, HT4.out⟩
    | true =>
      have hR := HTS.out
      rw [if_pos hrt] at hR
      have HBYS := zH (HBY.out w4 S0 hrt)
      have HLB := zH (HLS.out S0 HFS.out hrt)
      generalize rbytes (nf 2 s 2) S0 = wv at *
      have HR := zH hR
      clear hrt hR
      go_upto_region 29 with fail
      refine wp_region_lit ?_
      refine wR (v := .agg #[.int .i64 2, .int .i64 (s : Int), .int .i64 2]) (w' := w4) rfl (exec_load rfl rfl (load_blkForm HBK4.out)) ?_
      simp only [zz]
      refine wM (strV S0) ?_
      simp only [zz]
      refine wpList_call rfl ?_
      intro K1 HK1
      go_wp2_with fail
      refine HBYS.out.mono ?_
      rintro e w5 ⟨A5, n5, c5, rfl, ho5, ht5⟩
      refine HK1.out _ _ ?_
      clear HK1
      try simp only [zz]
      have HT5 := zH (HT4.out.trans ht5 fun _ _ e => e)
      have hbk5 := HBK4.out.turn ht5 fun e => e
      have d0 : w5.cell? ⟨b3, 0, none⟩ = some (.int .i64 2) := hbk5.cell 0
      obtain ⟨hbs5, hnc5, hz5⟩ := own_bs ho5
      have HB5 := zH hbs5
      have HNC5 := zH hnc5
      have HZ5 := zH hz5
      have HBb := zH (bs_turn HBB.out HT5.out)
      clear ho5 ht5 hbk5 hbs5 hnc5 hz5
      go_upto_region 31 with fail
      refine wp_region_lit ?_
      obtain ⟨A6, hsl, hbs6, hz6⟩ : ∃ A6, (∀ (a : Act) (o : Oper) (x y : Operand), o.op = .slice 26 x (some y) none none → a.eval x = .slice A5 n5 c5 → a.eval y = .int .i64 ((n5 - m : Nat) : Int) → (execOp a.eval o).run Tryz.prog w5 = .ok (.value (.slice A6 (n5 - (n5 - m)) (c5 - (n5 - m)))) w5) ∧ Bs w5 A6 (n5 - (n5 - m)) (wv.drop (n5 - m)) ∧ True := bfrom_all HB5.out HZ5.out HNC5.out (by omega)
      refine wM (.slice A5 n5 c5) ?_
      simp only [zz]
      refine wM (.slice A5 n5 c5) ?_
      simp only [zz]
      refine wR (v := .int .i64 (n5 : Int)) (w' := w5) rfl (gx_len rfl rfl Tryz.underlying26) ?_
      simp only [zz]
      refine wM (.slice A m cap) ?_
      simp only [zz]
      refine wR (v := .int .i64 (m : Int)) (w' := w5) rfl (gx_len rfl rfl Tryz.underlying26) ?_
      simp only [zz]
      refine wR (v := .int .i64 ((n5 - m : Nat) : Int)) (w' := w5) rfl (exec_isub rfl rfl rfl (by have h1 := HLB.out; have h2 := HB5.out.1; omega) (by have h2 := HB5.out.2.1; unfold maxLen at h2; omega)) ?_
      simp only [zz]
      refine wR (v := .slice A6 (n5 - (n5 - m)) (c5 - (n5 - m))) (w' := w5) rfl (hsl _ _ _ _ rfl rfl rfl) ?_
      simp only [zz]
      refine wA (.slice A6 (n5 - (n5 - m)) (c5 - (n5 - m))) ?_
      simp only [zz]
      have hlst : wv.drop (n5 - m) = wv.drop (wv.length - b.length) := by rw [HB5.out.1, HBL.out]
      rw [hlst] at hbs6
      have HB6 := zH hbs6
      clear hsl hbs6 hz6 hlst
      generalize hlw : wv.drop (wv.length - b.length) = lw at *
      have hR := HR.out
      rw [show rlast (nf 2 s 2) wv b = lw from hlw] at hR
      have HR := zH hR
      clear hR hlw
      go_upto_region 32 with fail
      refine wp_region_lit ?_
      refine wM (strV S0) ?_
      simp only [zz]
      refine wM (.slice A6 (n5 - (n5 - m)) (c5 - (n5 - m))) ?_
      simp only [zz]
      refine wR (v := strV lw) (w' := w5) rfl (exec_strBs rfl rfl HB6.out) ?_
      simp only [zz]
      refine wM (.slice A m cap) ?_
      simp only [zz]
      refine wR (v := strV b) (w' := w5) rfl (exec_strBs rfl rfl HBb.out) ?_
      simp only [zz]
      refine wR (v := .bool (lw == b)) (w' := w5) rfl (exec_seql rfl rfl rfl) ?_
      simp only [zz]
      cases heq : (lw == b) with
      | true =>
        have hR := HR.out
        rw [heq] at hR
        have HR := zH hR
        clear hR heq
        refine wM (.bool true) ?_
        simp only [zz]
        refine wR (v := .pointer (some ⟨b3, 0, none⟩)) (w' := w5) rfl (exec_field (off := 0) (d := 0) rfl rfl (by kernel_rfl)) ?_
        simp only [zz]
        refine wR (v := .int .i64 2) (w' := w5) rfl (exec_load1 rfl rfl (by kernel_rfl) d0) ?_
        simp only [zz]
        refine wR (v := .bool false) (w' := w5) rfl (exec_ineq rfl rfl rfl (by decide)) ?_
        simp only [zz]
        refine wM (.bool false) ?_
        simp only [zz]
        refine wM (strV S0) ?_
        simp only [zz]
        refine wR (v := .int .i64 (S0.length : Int)) (w' := w5) rfl (exec_slen rfl rfl) ?_
        simp only [zz]
        refine wM (.int .i64 (n : Int)) ?_
        simp only [zz]
        refine wR (v := .bool (decide (S0.length = n))) (w' := w5) rfl (exec_ieq rfl rfl rfl (by rw [Bool.eq_iff_iff, beq_iff_eq, decide_eq_true_eq]; omega)) ?_
        simp only [zz]
        refine wR (v := .bool (decide (S0.length = n))) (w' := w5) rfl (exec_pickF rfl rfl rfl) ?_
        simp only [zz]
        refine wR (v := .bool (decide (S0.length = n))) (w' := w5) rfl (exec_pickT rfl rfl rfl) ?_
        simp only [zz]
        generalize decide (S0.length = n) = dl at *
        go_wp2_with fail
        go_ret2
        rw [HR.out]
        exact ⟨rfl, HT5.out⟩
      | false =>
        have hR := HR.out
        rw [heq] at hR
        have HR := zH hR
        clear hR heq
        go_wp2_with fail
        go_ret2
        rw [HR.out]
        exact ⟨rfl, HT5.out⟩
theorem text23_walk {s n m cap : Nat} {A : Option Addr} {b : List UInt8} (w : World) (hb : Bs w A m b) (hm : m ≤ 200) (hs : 1 ≤ s ∧ s ≤ 64) (hn : n ≤ 99) (hls : ∀ S, S = rfix (nf 2 s 3) n (rchars (nf 2 s 3) 0 b) → (nf 2 s 3).right S = true → m ≤ (rbytes (nf 2 s 3) S).length) :
 Calls Tryz.prog 55 #[fmV (nf 2 s 3), .slice A m cap, .int .i64 (n : Int)] w (TextP w (rtext (nf 2 s 3) b n)) := by
 have hT : ∀ S, S = rfix (nf 2 s 3) n (rchars (nf 2 s 3) 0 b) → rtext (nf 2 s 3) b n = if (nf 2 s 3).right S = true then (S, (rlast (nf 2 s 3) (rbytes (nf 2 s 3) S) b == b) && (decide ((nf 2 s 3).kind ≠ 2) || decide (S.length = n))) else ([], false) := by
  rintro S rfl
  rfl
 have HT := zH hT
 have HBB := zH hb
 have HM := zH hm
 have HS := zH hs
 have HN := zH hn
 have HBL := zH (show b.length = m from hb.1)
 have HLS := zH hls
 clear hls
 have HRT := zH (fun (W : World) (S : List UInt8) (hl : S.length ≤ 1000) => rright_any (k := 2) (s := s) (c := 3) (t := S) W (by decide) hs hl)
 have HBY := zH (fun (W : World) (S : List UInt8) (hr : (nf 2 s 3).right S = true) => rbytes_any (k := 2) (s := s) (c := 3) (t := S) W (by decide) (by decide) hs hr)
 clear hT hb hm hs hn
 generalize hR : rtext (nf 2 s 3) b n = R at *
 clear hR
 obtain ⟨b3, hb3⟩ : ∃ b3, b3 = w.heap.size := ⟨_, rfl⟩
 have hfv : fmV (nf 2 s 3) = .agg #[.int .i64 2, .int .i64 (s : Int), .int .i64 3] := rfl
 rw [hfv] at HRT HBY ⊢
 clear hfv
 go_enter Tryz.func55, Tryz.ntmps55
 go_upto_region 1 with fail
 have hb0 := Blk.new w 49 #[.int .i64 2, .int .i64 (s : Int), .int .i64 3]
 have ht0 := (Turn.refl nowhere w).alloc (.cells #[.int .i64 2, .int .i64 (s : Int), .int .i64 3] 49)
 generalize (w.alloc (.cells #[.int .i64 2, .int .i64 (s : Int), .int .i64 3] 49)) = w1 at *
 rw [← hb3] at hb0 ⊢
 have HBK := zH hb0
 have HT0 := zH ht0
 clear hb0 ht0 hb3
 obtain ⟨B, hB⟩ : ∃ B, B = w1.heap.size := ⟨_, rfl⟩
 have HB := zH hB
 have hown0 := Own.empty w1 B 5 (Nat.le_of_eq hB)
 have hbel0 : Below B w1 (w1.alloc (.cells #[] 5)) := (Below.refl _ w1).alloc (Nat.le_of_eq hB) _
 rw [← hB] at hown0
 clear hB
 refine wp_region_lit ?_
 refine wR (v := _) rfl (exec_make0 rfl) ?_
 simp only [zz]
 refine wA (.slice (some ⟨w1.heap.size, 0, none⟩) 0 0) ?_
 simp only [zz]
 rw [← HB.out]
 generalize (w1.alloc (.cells #[] 5)) = w2 at *
 have HO0 := zH hown0
 have HB0 := zH hbel0
 clear hown0 hbel0
 go_wp2_with fail
 go_loopg [8, 9] m (fun gk tv i wr => ∃ (k : Nat) (A' : Option Addr) (n' c' : Nat), k + gk = m ∧ i = .int .i64 (k : Int) ∧ tv = .slice A' n' c' ∧ Own wr B 5 (.slice A' n' c') (rchars (nf 2 s 3) 0 (b.take k)) ∧ Below B w1 wr)
 case atStart => exact ⟨0, some ⟨B, 0, none⟩, 0, 0, by omega, rfl, rfl, HO0.out, HB0.out⟩
 case round =>
  obtain ⟨k, A', n', c', hkl, rfl, rfl, hown, hbel⟩ := hrel
  have HKL := zH hkl
  have HO := zH hown
  have HE := zH hbel
  clear hkl hown hbel
  have htw : Turn nowhere w wr := turn_below HT0.out (HE.out.mono (by rw [HB.out]; exact HT0.out.size))
  have HTW := zH htw
  have HBW := zH (bs_turn HBB.out htw)
  have hbk : Blk wr b3 49 #[.int .i64 2, .int .i64 (s : Int), .int .i64 3] := (HE.out.block b3 (by rw [HB.out]; exact HBK.out.lt)).trans HBK.out
  have d0 : wr.cell? ⟨b3, 0, none⟩ = some (.int .i64 2) := hbk.cell 0
  have d1 : wr.cell? ⟨b3, 1, none⟩ = some (.int .i64 (s : Int)) := hbk.cell 1
  have d2 : wr.cell? ⟨b3, 2, none⟩ = some (.int .i64 3) := hbk.cell 2
  have HBKW := zH hbk
  clear htw hbk
  go_upto_region 3 with fail
  refine wp_region_lit ?_
  refine wM (.int .i64 (k : Int)) ?_
  simp only [zz]
  refine wM (.slice A m cap) ?_
  simp only [zz]
  refine wR (v := .int .i64 (m : Int)) (w' := wr) rfl (gx_len rfl rfl Tryz.underlying26) ?_
  simp only [zz]
  by_cases hlt : k < m
  ·refine wR (v := .bool true) (w' := wr) rfl (exec_lss rfl rfl rfl (by omega)) ?_
   simp only [zz]
   have HLT := zH hlt
   clear hlt
   obtain ⟨_, _, hcc⟩ := HBW.out
   obtain ⟨g, off, rfl, hcell⟩ := hcc (by have := HLT.out; omega)
   have hck := hcell k HLT.out
   have htk := rchars_snoc (nf 2 s 3) k 0 b (by rw [HBL.out]; exact HLT.out)
   rw [Nat.zero_add] at htk
   have hlo : (rchars (nf 2 s 3) 0 (b.take k)).length ≤ 400 := by
    have h1 := rchars_len (nf 2 s 3) (b.take k) 0
    rw [List.length_take] at h1
    have := HBL.out
    have := HM.out
    omega
   have HLO := zH hlo
   generalize b.getD k 0 = x at *
   clear hcc hcell hlo
   have HTK := zH htk
   have HCK := zH hck
   clear htk hck
   go_upto_region 5 with fail
   refine wp_region_lit ?_
   refine wM (.slice (some ⟨g, off, none⟩) m cap) ?_
   simp only [zz]
   refine wM (.int .i64 (k : Int)) ?_
   simp only [zz]
   refine wR (v := .pointer (some ⟨g, off + k, none⟩)) (w' := wr) rfl (gx_iaddr (off := off) (n := m) (c := cap) (i := k) (sz := 1) (k := .i64) rfl rfl rfl Tryz.underlying26 size_u8 HLT.out (by omega)) ?_
   simp only [zz]
   refine wR (v := .int .u8 (x.toNat : Int)) (w' := wr) rfl (exec_load1 rfl rfl (by kernel_rfl) HCK.out) ?_
   simp only [zz]
   refine wA (.int .u8 (x.toNat : Int)) ?_
   simp only [zz]
   have HRC := zH (show rch (nf 2 s 3) k x = [unebc x] from rfl)
   have hun := unf_all x
   go_upto_region 11 with fail
   rw [← hun] at HRC
   clear hun
   obtain ⟨wo, rfl⟩ : ∃ wo : World, wo = wr := ⟨_, rfl⟩
   generalize gk = gko at *
   go_wp2_with fail
   go_loopg [12, 13] 128 (fun gk fv sv wq => ∃ j : Nat, j + gk = 128 ∧ sv = .int .i64 (j : Int) ∧ fv = .int .u8 ((unf x j).toNat : Int) ∧ wq = wo)
   case atStart => exact ⟨0, rfl, rfl, rfl, rfl⟩
   case round =>
    obtain ⟨j, hjl, rfl, rfl, hwq⟩ := hrel
    obtain rfl : wo = wr := hwq.symm
    have HJL := zH hjl
    clear hjl hwq
    by_cases hj : j < 128
    ·have y1 : (j : Int) < 128 := by omega
     have hj256 : j < 256 := by omega
     have hus := unf_succ x j
     have HJ := zH hj
     have b0 : (0 : Int) ≤ (j : Int) := by omega
     clear hj
     go_upto_region 15 with fail
     refine wp_region_lit ?_
     refine wM (.int .i64 (j : Int)) ?_
     simp only [zz]
     refine wR (v := .int .u8 ((UInt8.ofNat j).toNat : Int)) (w' := wo) rfl (exec_iu8 hj256 rfl rfl) ?_
     simp only [zz]
     generalize hz : UInt8.ofNat j = z at *
     have HZ := zH hz
     clear hz
     generalize unf x j = u0 at *
     have HUS := zH hus
     clear hus
     refine wpList_call rfl ?_
     intro K1 HK1
     go_wp2_with fail
     refine (sign_walk z wo).mono ?_
     rintro e wq ⟨rfl, hw⟩
     obtain rfl : wo = wq := hw.symm
     refine HK1.out _ _ ?_
     clear HK1
     try simp only [zz]
     cases hsg : sgn.contains z with
     | true =>
       rw [hsg] at HUS
       refine wM (.bool true) ?_
       simp only [zz]
       refine wM (.int .i64 (j : Int)) ?_
       simp only [zz]
       refine wR (v := .int .u8 (z.toNat : Int)) (w' := wo) rfl (by rw [← HZ.out]; exact exec_iu8 hj256 rfl rfl) ?_
       simp only [zz]
       refine wpList_call rfl ?_
       intro K1 HK1
       go_wp2_with fail
       refine (ebcdic_walk z wo).mono ?_
       rintro e wq ⟨rfl, hw⟩
       obtain rfl : wo = wq := hw.symm
       refine HK1.out _ _ ?_
       clear HK1
       try simp only [zz]
       refine wM (.int .u8 (x.toNat : Int)) ?_
       simp only [zz]
       cases heq : ebc z == x with
       | true =>
         rw [heq] at HUS
         refine wR (v := .bool true) (w' := wo) rfl (by rw [← heq]; exact exec_u8eq rfl rfl rfl) ?_
         simp only [zz]
         refine wR (v := .bool true) (w' := wo) rfl (exec_pickT rfl rfl rfl) ?_
         simp only [zz]
         go_upto_region 16 with fail
         refine wp_region_lit ?_
         refine wM (.int .i64 (j : Int)) ?_
         simp only [zz]
         refine wR (v := .int .u8 (z.toNat : Int)) (w' := wo) rfl (by rw [← HZ.out]; exact exec_iu8 hj256 rfl rfl) ?_
         simp only [zz]
         go_wp2_with fail
         go_roundg (gk - 1)
         case measure => have := HJL.out; have := HJ.out; omega
         case rel => exact ⟨j + 1, by have := HJL.out; have := HJ.out; omega, by go_num, by rw [HUS.out]; rfl, rfl⟩
       | false =>
         rw [heq] at HUS
         refine wR (v := .bool false) (w' := wo) rfl (by rw [← heq]; exact exec_u8eq rfl rfl rfl) ?_
         simp only [zz]
         refine wR (v := .bool false) (w' := wo) rfl (exec_pickT rfl rfl rfl) ?_
         simp only [zz]
         go_wp2_with fail
         go_roundg (gk - 1)
         case measure => have := HJL.out; have := HJ.out; omega
         case rel => exact ⟨j + 1, by have := HJL.out; have := HJ.out; omega, by go_num, by rw [HUS.out]; rfl, rfl⟩
     | false =>
       rw [hsg] at HUS
       go_wp2_with fail
       go_roundg (gk - 1)
       case measure => have := HJL.out; have := HJ.out; omega
       case rel => exact ⟨j + 1, by have := HJL.out; have := HJ.out; omega, by go_num, by rw [HUS.out]; rfl, rfl⟩
    ·have hj8 : j = 128 := by have := HJL.out; omega
     subst hj8
     clear hj
     have y1 : ¬ ((128 : Int) < 128) := by omega
     go_upto_region 17 with fail
     clear y1
     generalize unf x 128 = z at *
     refine wp_region_lit ?_
     refine wM (.slice A' n' c') ?_
     simp only [zz]
     refine wM (.int .u8 (z.toNat : Int)) ?_
     simp only [zz]
     refine wR (v := _) rfl (exec_one (z := z) rfl rfl) ?_
     simp only [zz]
     have hone := bs_blk (Blk.new wo 5 (bcs [z]).toArray) (n := 1) rfl (by unfold maxLen; omega)
     have hown1 : Own (wo.alloc (.cells (bcs [z]).toArray 5)) B 5 (.slice A' n' c') (rchars (nf 2 s 3) 0 (b.take k)) := HO.out.alloc _
     refine wpList_append_bytes _ rfl _ _ _ rfl B 5 byteInfo Tryz.underlying26 _ _ rfl hown1 _ 1 1 [z] rfl hone (fun h => by cases h) (by have := HLO.out; omega) (by have h1 := HE.out.size; have h2 := HB.out; simp; omega) ?_
     intro v2 w3 ho2 hb2
     simp only [zz]
     obtain ⟨A2, m2, c2, rfl, _⟩ := ho2.form
     have HO2 := zH ho2
     have HB2 := zH hb2
     clear ho2 hb2
     have b0 : (0 : Int) ≤ (k : Int) := by omega
     have b1 : (k : Int) ≤ 200 := by have := HLT.out; have := HM.out; omega
     clear hone hown1
     go_wp2_with fail
     go_roundg (gko - 1)
     case measure => have := HKL.out; have := HLT.out; omega
     case rel =>
      refine ⟨k + 1, A2, m2, c2, by have := HKL.out; have := HLT.out; omega, by go_num, rfl, ?_, (HE.out.alloc (by have h1 := HE.out.size; have h2 := HB.out; show B ≤ wo.heap.size; omega) _).trans HB2.out⟩
      rw [HTK.out, HRC.out]
      exact HO2.out
  ·refine wR (v := .bool false) (w' := wr) rfl (exec_nlss rfl rfl rfl (by omega)) ?_
   simp only [zz]
   have hkb : b.take k = b := List.take_of_length_le (by have := HKL.out; have := HBL.out; omega)
   have ho := HO.out
   rw [hkb] at ho
   have HO := zH ho
   have hl0 := rchars_len (nf 2 s 3) b 0
   have HL0 := zH (show (rchars (nf 2 s 3) 0 b).length ≤ 400 by have := HBL.out; have := HM.out; omega)
   clear hlt hkb ho hl0
   obtain ⟨S0, hS0⟩ : ∃ S0, S0 = rchars (nf 2 s 3) 0 b := ⟨_, rfl⟩
   rw [← hS0] at HO HL0
   have HS0 := zH hS0
   clear hS0
   go_upto_region 22 with fail
   refine wp_region_lit ?_
   refine wM (.slice A' n' c') ?_
   simp only [zz]
   refine wR (v := strV S0) (w' := wr) rfl (exec_strBs rfl rfl (own_bs HO.out).1) ?_
   simp only [zz]
   refine wA (strV S0) ?_
   simp only [zz]
   have e1 : rfix1 (nf 2 s 3) n S0 = S0 := if_neg fun h => absurd h.1 (show ¬ ((3 : Int) = 2) from by decide)
   have e2 : rfix2 (nf 2 s 3) (S0) = S0 := if_neg fun h => absurd h.1 (show ¬ ((3 : Int) = 2) from by decide)
   have HFS := zH (show S0 = rfix (nf 2 s 3) n (rchars (nf 2 s 3) 0 b) from by
    rw [← HS0.out]
    show S0 = rfix2 (nf 2 s 3) (rfix1 (nf 2 s 3) n S0)
    rw [e1, e2])
   have HTS := zH (HT.out _ HFS.out)
   clear e1 e2
   have HSL := zH (show S0.length ≤ 1000 by have := HL0.out; omega)
   go_upto_region 27 with fail
   clear d1
   refine wp_region_lit ?_
   refine wR (v := .agg #[.int .i64 2, .int .i64 (s : Int), .int .i64 3]) (w' := wr) rfl (exec_load rfl rfl (load_blkForm HBKW.out)) ?_
   simp only [zz]
   refine wM (strV S0) ?_
   simp only [zz]
   refine wpList_call rfl ?_
   intro K1 HK1
   go_wp2_with fail
   refine (HRT.out wr S0 HSL.out).mono ?_
   rintro e w4 ⟨rfl, ht4⟩
   refine HK1.out _ _ ?_
   clear HK1
   try simp only [zz]
   have HT4 := zH (HTW.out.trans ht4 fun _ _ e => e)
   have HBK4 := zH (HBKW.out.turn ht4 fun e => e)
   clear ht4 d0 d2
   cases hrt : (nf 2 s 3).right S0 with
   | false =>
     have hR := HTS.out
     rw [if_neg (by rw [hrt]; decide)] at hR
     clear hrt
     go_wp2_with fail
     go_ret2
     subst hR
     exact ⟨rfl, HT4.out⟩
   | true =>
     have hR := HTS.out
     rw [if_pos hrt] at hR
     have HBYS := zH (HBY.out w4 S0 hrt)
     have HLB := zH (HLS.out S0 HFS.out hrt)
     generalize rbytes (nf 2 s 3) S0 = wv at *
     have HR := zH hR
     clear hrt hR
     go_upto_region 29 with fail
     refine wp_region_lit ?_
     refine wR (v := .agg #[.int .i64 2, .int .i64 (s : Int), .int .i64 3]) (w' := w4) rfl (exec_load rfl rfl (load_blkForm HBK4.out)) ?_
     simp only [zz]
     refine wM (strV S0) ?_
     simp only [zz]
     refine wpList_call rfl ?_
     intro K1 HK1
     go_wp2_with fail
     refine HBYS.out.mono ?_
     rintro e w5 ⟨A5, n5, c5, rfl, ho5, ht5⟩
     refine HK1.out _ _ ?_
     clear HK1
     try simp only [zz]
     have HT5 := zH (HT4.out.trans ht5 fun _ _ e => e)
     have hbk5 := HBK4.out.turn ht5 fun e => e
     have d0 : w5.cell? ⟨b3, 0, none⟩ = some (.int .i64 2) := hbk5.cell 0
     obtain ⟨hbs5, hnc5, hz5⟩ := own_bs ho5
     have HB5 := zH hbs5
     have HNC5 := zH hnc5
     have HZ5 := zH hz5
     have HBb := zH (bs_turn HBB.out HT5.out)
     clear ho5 ht5 hbk5 hbs5 hnc5 hz5
     go_upto_region 31 with fail
     refine wp_region_lit ?_
     obtain ⟨A6, hsl, hbs6, hz6⟩ : ∃ A6, (∀ (a : Act) (o : Oper) (x y : Operand), o.op = .slice 26 x (some y) none none → a.eval x = .slice A5 n5 c5 → a.eval y = .int .i64 ((n5 - m : Nat) : Int) → (execOp a.eval o).run Tryz.prog w5 = .ok (.value (.slice A6 (n5 - (n5 - m)) (c5 - (n5 - m)))) w5) ∧ Bs w5 A6 (n5 - (n5 - m)) (wv.drop (n5 - m)) ∧ True := bfrom_all HB5.out HZ5.out HNC5.out (by omega)
     refine wM (.slice A5 n5 c5) ?_
     simp only [zz]
     refine wM (.slice A5 n5 c5) ?_
     simp only [zz]
     refine wR (v := .int .i64 (n5 : Int)) (w' := w5) rfl (gx_len rfl rfl Tryz.underlying26) ?_
     simp only [zz]
     refine wM (.slice A m cap) ?_
     simp only [zz]
     refine wR (v := .int .i64 (m : Int)) (w' := w5) rfl (gx_len rfl rfl Tryz.underlying26) ?_
     simp only [zz]
     refine wR (v := .int .i64 ((n5 - m : Nat) : Int)) (w' := w5) rfl (exec_isub rfl rfl rfl (by have h1 := HLB.out; have h2 := HB5.out.1; omega) (by have h2 := HB5.out.2.1; unfold maxLen at h2; omega)) ?_
     simp only [zz]
     refine wR (v := .slice A6 (n5 - (n5 - m)) (c5 - (n5 - m))) (w' := w5) rfl (hsl _ _ _ _ rfl rfl rfl) ?_
     simp only [zz]
     refine wA (.slice A6 (n5 - (n5 - m)) (c5 - (n5 - m))) ?_
     simp only [zz]
     have hlst : wv.drop (n5 - m) = wv.drop (wv.length - b.length) := by rw [HB5.out.1, HBL.out]
     rw [hlst] at hbs6
     have HB6 := zH hbs6
     clear hsl hbs6 hz6 hlst
     generalize hlw : wv.drop (wv.length - b.length) = lw at *
     have hR := HR.out
     rw [show rlast (nf 2 s 3) wv b = lw from hlw] at hR
     have HR := zH hR
     clear hR hlw
     go_upto_region 32 with fail
     refine wp_region_lit ?_
     refine wM (strV S0) ?_
     simp only [zz]
     refine wM (.slice A6 (n5 - (n5 - m)) (c5 - (n5 - m))) ?_
     simp only [zz]
     refine wR (v := strV lw) (w' := w5) rfl (exec_strBs rfl rfl HB6.out) ?_
     simp only [zz]
     refine wM (.slice A m cap) ?_
     simp only [zz]
     refine wR (v := strV b) (w' := w5) rfl (exec_strBs rfl rfl HBb.out) ?_
     simp only [zz]
     refine wR (v := .bool (lw == b)) (w' := w5) rfl (exec_seql rfl rfl rfl) ?_
     simp only [zz]
     cases heq : (lw == b) with
     | true =>
       have hR := HR.out
       rw [heq] at hR
       have HR := zH hR
       clear hR heq
       refine wM (.bool true) ?_
       simp only [zz]
       refine wR (v := .pointer (some ⟨b3, 0, none⟩)) (w' := w5) rfl (exec_field (off := 0) (d := 0) rfl rfl (by kernel_rfl)) ?_
       simp only [zz]
       refine wR (v := .int .i64 2) (w' := w5) rfl (exec_load1 rfl rfl (by kernel_rfl) d0) ?_
       simp only [zz]
       refine wR (v := .bool false) (w' := w5) rfl (exec_ineq rfl rfl rfl (by decide)) ?_
       simp only [zz]
       refine wM (.bool false) ?_
       simp only [zz]
       refine wM (strV S0) ?_
       simp only [zz]
       refine wR (v := .int .i64 (S0.length : Int)) (w' := w5) rfl (exec_slen rfl rfl) ?_
       simp only [zz]
       refine wM (.int .i64 (n : Int)) ?_
       simp only [zz]
       refine wR (v := .bool (decide (S0.length = n))) (w' := w5) rfl (exec_ieq rfl rfl rfl (by rw [Bool.eq_iff_iff, beq_iff_eq, decide_eq_true_eq]; omega)) ?_
       simp only [zz]
       refine wR (v := .bool (decide (S0.length = n))) (w' := w5) rfl (exec_pickF rfl rfl rfl) ?_
       simp only [zz]
       refine wR (v := .bool (decide (S0.length = n))) (w' := w5) rfl (exec_pickT rfl rfl rfl) ?_
       simp only [zz]
       generalize decide (S0.length = n) = dl at *
       go_wp2_with fail
       go_ret2
       rw [HR.out]
       exact ⟨rfl, HT5.out⟩
     | false =>
       have hR := HR.out
       rw [heq] at hR
       have HR := zH hR
       clear hR heq
       go_wp2_with fail
       go_ret2
       rw [HR.out]
       exact ⟨rfl, HT5.out⟩
end Go.Proofs.YticofobhkmabiaaGreatDoor
