/-
  Texts in one file. Conditions: the tables and the errors read as laid.
-/
import Derived.Test.YtkagijifkpoplaaGreatDoorJT21
import Derived.Test.YtkagijifkpoplaaGreatDoorJT0
import Derived.Test.YtkagijifkpoplaaGreatDoorJT1
set_option linter.unusedVariables false
set_option linter.unusedSimpArgs false
set_option maxRecDepth 40000
set_option maxHeartbeats 20000000
namespace Go.Proofs.YtkagijifkpoplaaGreatDoor
open Go.RowKit
open Fdd
theorem sneq_f {a : Act} {o : Oper} {W : World} {x y : Operand} {l m : List UInt8} {t u : TypeId} (ho : o.op = .binOp .neq t x y u) (hx : a.eval x = strV l) (hy : a.eval y = strV m) (h : l = m) : (execOp a.eval o).run Tryz.prog W = .ok (.value (.bool false)) W := by
 rw [exec_sneq ho hx hy, h]
 simp
theorem sneq_t {a : Act} {o : Oper} {W : World} {x y : Operand} {l m : List UInt8} {t u : TypeId} (ho : o.op = .binOp .neq t x y u) (hx : a.eval x = strV l) (hy : a.eval y = strV m) (h : ¬ l = m) : (execOp a.eval o).run Tryz.prog W = .ok (.value (.bool true)) W := by
 rw [exec_sneq ho hx hy]
 simp [h]
theorem enc_err {r : Except Int (List UInt8)} {k : Int} {w w' : World} (h : r = .error k) (ht : Turn nowhere w w') : EncodeP r w (.returned (.tuple #[.slice none 0 0, .int .i64 k])) w' := by
 subst h
 exact ⟨none, 0, 0, rfl, World.ownsRow_nil w' _ _ _, ht⟩
def Bits1 (gb : Nat) (d : Nat) (wb : World) (fs : List Fld) (lv : Bool) (wr : World) : Prop := lv = far64 fs ∧ Blk wr gb 5 (bcs (B16 fs)).toArray ∧ Turn nowhere wb wr ∧ ∀ f ∈ fs, Amt d f
theorem head_ty {w : World} {d : Nat} {ty : Int} (hd : 1 ≤ d ∧ d ≤ 3) (h : mtypes.contains ty = true) :
 Calls Tryz.prog 58 #[.int .i64 (d : Int), .int .i64 ty] w fun e w' => e = .returned (strV (ver d ++ dig3 ty.toNat)) ∧ Turn nowhere w w' := by
 obtain ⟨t, rfl, h9⟩ := type_small h
 exact head_walk hd h9
theorem rput_ok {w : World} {f : Fm} {n cap : Nat} {A : Option Addr} {b t : List UInt8} (h : f.check t = 0) (hb : Bs w A n b) (hz : A = none → cap = 0) (hn : n ≤ 140737488351232) (hl : t.length ≤ 9223372036854775807) :
 Calls Tryz.prog 56 #[.slice A n cap, .agg (fmA f), strV t] w fun e w' => ∃ A n c, e = .returned (.tuple #[.slice A n c, .int .i64 0]) ∧ Own w' w.heap.size 5 (.slice A n c) (b ++ f.put t) ∧ Turn nowhere w w' := by
 refine (rput_walk (f := f) (cap := cap) hb hz hn hl).mono ?_
 rintro e w' ⟨A', n', c', rfl, ho, ht⟩
 rw [h]
 unfold putR at ho
 rw [if_pos h] at ho
 exact ⟨_, _, _, rfl, ho, ht⟩
theorem put_type {w : World} {d : Nat} {ty : Int} (hd : 1 ≤ d ∧ d ≤ 3) (h : mtypes.contains ty = true) :
 Calls Tryz.prog 56 #[.slice none 0 0, .agg (fmA ⟨1, 4, (d : Int)⟩), strV (ver d ++ dig3 ty.toNat)] w fun e w' => ∃ A n c, e = .returned (.tuple #[.slice A n c, .int .i64 0]) ∧ Own w' w.heap.size 5 (.slice A n c) ((typeFm d).put (ver d ++ dig3 ty.toNat)) ∧ Turn nowhere w w' := by
 have hr := (type_right hd h).1
 have hl := (Fdd.right_n.1 hr).1
 have := rput_ok (w := w) (f := typeFm d) (A := none) (n := 0) (cap := 0) (b := []) ((check_zero (by decide) hd (by decide)).2 hr) (bs_nil w none) (fun _ => rfl) (by decide) (by rw [hl]; decide)
 rw [List.nil_append] at this
 exact this
theorem rEncode_walk {w : World} {dd ty : Int} {A : Option Addr} {n c : Nat} {fs : List Fld} (hf : Fl w A n fs) (htx : Txts fs) :
 Calls Tryz.prog 40 #[.int .i64 dd, msgV ty A n c] w (EncodeP (mencode dd ty fs) w) := by
 have HF := zH hf
 have HTX := zH htx
 have HNL := zH hf.1
 have y9 : (n : Int) ≤ 140737488355328 := by
  have := hf.2.1
  omega
 clear hf htx
 unfold msgV
 go_enter Tryz.func40, Tryz.ntmps40
 go_upto_region 1 with fail
 have hb0 := Blk.new w 29 #[.int .i64 ty, .slice A n c]
 have hu0 := (Turn.refl nowhere w).alloc (.cells #[.int .i64 ty, .slice A n c] 29)
 obtain ⟨gm, hg0⟩ : ∃ g, g = w.heap.size := ⟨_, rfl⟩
 rw [← hg0] at hb0 ⊢
 clear hg0
 generalize w.alloc (.cells #[.int .i64 ty, .slice A n c] 29) = w1 at *
 have HBgm := zH hb0
 have HT0 := zH hu0
 clear hb0 hu0
 refine wp_region_lit ?_
 refine wM (.int .i64 dd) ?_;simp only [zz]
 by_cases h1 : dd < 1
 ·have HX9 := zH (show mencode dd ty fs = .error 50 from by unfold mencode; rw [if_neg (by omega)])
  refine wS (.bool true) (ix_lss rfl rfl rfl (decide_eq_true h1)) ?_;simp only [zz];refine wM (.bool true) ?_;simp only [zz]
  refine wpList_skip (by go_simp) ?_
  simp only [zz]
  refine wpList_skip (by go_simp) ?_
  simp only [zz];refine wS (.bool true) (ix_pickT rfl rfl rfl) ?_;simp only [zz]
  clear h1
  go_wp2_with fail
  go_ret2
  exact enc_err HX9.out HT0.out
 ·refine wS (.bool false) (ix_lss rfl rfl rfl (decide_eq_false h1)) ?_;simp only [zz];refine wM (.bool false) ?_;simp only [zz];refine wM (.int .i64 dd) ?_;simp only [zz]
  by_cases h2 : 3 < dd
  ·have HX9 := zH (show mencode dd ty fs = .error 50 from by unfold mencode; rw [if_neg (by omega)])
   refine wS (.bool true) (ix_gtr rfl rfl rfl (decide_eq_true h2)) ?_;simp only [zz];refine wS (.bool true) (ix_pickF rfl rfl rfl) ?_;simp only [zz]
   clear h1 h2
   go_wp2_with fail
   go_ret2
   exact enc_err HX9.out HT0.out
  ·refine wS (.bool false) (ix_gtr rfl rfl rfl (decide_eq_false h2)) ?_;simp only [zz];refine wS (.bool false) (ix_pickF rfl rfl rfl) ?_;simp only [zz]
   obtain ⟨d, rfl⟩ : ∃ d : Nat, dd = (d : Int) := ⟨dd.toNat, by omega⟩
   have HD := zH (show 1 ≤ d ∧ d ≤ 3 by omega)
   have HDI := zH (show 1 ≤ (d : Int) ∧ (d : Int) ≤ 3 by omega)
   clear h1 h2
   go_upto_region 3 with fail
   refine wp_region_lit ?_
   refine wS (msgV ty A n c) (gx_loads rfl rfl (blk_range HBgm.out) Tryz.underlying29 rfl (by rw [size_msg]; rfl)) ?_;simp only [zz]
   have hC := rCheck_walk (ty := ty) (c := c) (HF.out.still HT0.out) HTX.out
   refine wpList_op rfl fun K9 HK9 => ?_
   go_wp2_with fail
   refine (hC).mono ?_
   rintro e w2 ⟨rfl, htx⟩
   refine HK9.out _ _ ?_
   clear HK9
   try simp only [zz]
   clear hC
   have HT2 := zH htx
   clear htx
   refine wA (.int .i64 (mcheck ty fs)) ?_;simp only [zz]
   go_upto_region 4 with fail
   refine wp_region_lit ?_
   refine wM (.int .i64 (mcheck ty fs)) ?_;simp only [zz]
   by_cases hck : mcheck ty fs = 0
   ·refine wS (.bool false) (ix_neq rfl rfl rfl (by rw [hck]; decide)) ?_;simp only [zz]
    obtain ⟨hty, hn24, hgood⟩ := mcheck_zero.1 hck
    have HREF := zH (show ((∀ f ∈ fs, Amt d f) → mencode (d : Int) ty fs = .ok (wire d ty fs)) ∧ ((∃ f ∈ fs, ¬ Amt d f) → mencode (d : Int) ty fs = .error 41) from by
     have h := mencode_ref (d := (d : Int)) (ty := ty) (fs := fs) HDI.out hck
     rwa [Int.toNat_natCast] at h)
    have HTY := zH hty
    have HGD := zH hgood
    have HNO := zH (good_nos hgood).2
    clear hck hty hn24 hgood
    go_upto_region 6 with fail
    refine wp_region_lit ?_
    refine wR (v := .slice (some ⟨w2.heap.size, 0, none⟩) 16 16) (w' := w2.alloc (.cells (bcs (List.replicate 16 0)).toArray 5)) rfl (gx_make rfl rfl rfl (mk16 w2)) ?_
    simp only [zz]
    have hb5 := Blk.new w2 5 (bcs (List.replicate 16 0)).toArray
    rw [← B16_nil] at hb5 ⊢
    have hu5 := (Turn.refl nowhere w2).alloc (.cells (bcs (B16 [])).toArray 5)
    obtain ⟨gb, hgb⟩ : ∃ g, g = w2.heap.size := ⟨_, rfl⟩
    rw [← hgb] at hb5 ⊢
    have HGB := zH (show w2.heap.size ≤ gb from by omega)
    clear hgb
    generalize w2.alloc (.cells (bcs (B16 [])).toArray 5) = w3 at *
    have HB5 := zH hb5
    have HU5 := zH hu5
    clear hb5 hu5
    refine wA (.slice (some ⟨gb, 0, none⟩) 16 16) ?_;simp only [zz]
    go_upto_region 7 with fail
    refine wp_region_lit ?_
    refine wA (.bool false) ?_;simp only [zz]
    go_upto_region 8 with fail
    refine wp_region_lit ?_
    refine wA (.int .i64 0) ?_;simp only [zz]
    go_wp2_with fail
    go_loopg [8, 9] n (fun gk lv jv wr => ∃ (j : Nat) (lb : Bool), j + gk = n ∧ jv = .int .i64 (j : Int) ∧ lv = .bool lb ∧ Bits1 gb d w2 (fs.take j) lb wr)
    case atStart => exact ⟨0, false, by omega, rfl, rfl, rfl, HB5.out, HU5.out, fun f hf => by cases hf⟩
    obtain ⟨j, lb, hjl, rfl, rfl, hb1, hb2, hb3, hb4⟩ := hrel
    have HJL := zH hjl
    have HLB := zH hb1
    have HB6 := zH hb2
    have HTR := zH hb3
    have HAM := zH hb4
    clear hjl hb1 hb2 hb3 hb4
    have HB2 := zH (HBgm.out.turn (HT2.out.next HTR.out) (fun e => e))
    go_upto_region 9 with fail
    refine wp_region_lit ?_
    refine wM (.int .i64 (j : Int)) ?_;simp only [zz];refine wS (.pointer (some ⟨gm, 1, none⟩)) (xF 0 1) ?_;simp only [zz];refine wS (.slice A n c) (xL (HB2.out.cell 1)) ?_;simp only [zz];refine wS (.int .i64 (n : Int)) (gx_len rfl rfl Tryz.underlying27) ?_;simp only [zz]
    by_cases hlt : j < n
    ·have HLT := zH hlt
     have y1 : (j : Int) < (n : Int) := by omega
     obtain ⟨bF, oF, rfl, hr⟩ := (HF.out.still ((HT0.out.next HT2.out).next HTR.out)).2.2 (by omega)
     obtain ⟨f, hf⟩ : ∃ f, fs[j]? = some f := ⟨_, List.getElem?_eq_getElem (show j < fs.length from by rw [HNL.out]; exact hlt)⟩
     have hmem := List.mem_of_getElem? hf
     obtain ⟨q, hq⟩ : ∃ q : Nat, f.1 = (q : Int) := ⟨f.1.toNat, by have := HNO.out f hmem; omega⟩
     have HQ := zH hq
     have HQ2 := zH (show 2 ≤ q ∧ q ≤ 97 by have := HNO.out f hmem; omega)
     obtain ⟨p, hp⟩ : ∃ p, p = q - 1 := ⟨_, rfl⟩
     have HP := zH hp
     have y3 : p < 128 := by have := HQ2.out; omega
     have HRR := zH (hr j f hf)
     have HMEM := zH hmem
     have HSN := zH (take_snoc hf)
     clear hr hf hlt hmem hq hp
     refine wS (.bool true) (ix_lss rfl rfl rfl (decide_eq_true y1)) ?_;simp only [zz]
     go_upto_region 11 with fail
     refine wp_region_lit ?_
     refine wS (.pointer (some ⟨gm, 1, none⟩)) (xF 0 1) ?_;simp only [zz];refine wS (.slice (some ⟨bF, oF, none⟩) n c) (xL (HB2.out.cell 1)) ?_;simp only [zz];refine wM (.int .i64 (j : Int)) ?_;simp only [zz];refine wS (.pointer (some ⟨bF, oF + j * 2, none⟩)) (gx_iaddr (i := j) (sz := 2) rfl rfl rfl Tryz.underlying27 size_field HLT.out (by omega)) ?_;simp only [zz];refine wS (.pointer (some ⟨bF, oF + j * 2, none⟩)) (xF (oF + j * 2) 0) ?_;simp only [zz];refine wS (.int .i64 f.1) (xL (HRR.out 0 _ rfl)) ?_;simp only [zz];refine wS (.int .i64 (p : Int)) (ix_sub rfl rfl rfl (by have := HQ.out; have := HP.out; have := HQ2.out; omega) (by omega)) ?_;simp only [zz];refine wA (.int .i64 (p : Int)) ?_;simp only [zz]
     go_upto_region 12 with fail
     have hS0 : Blk wr.drew gb 5 (bcs (B16 (fs.take j))).toArray := HB6.out.drew
     have HUd := zH (HTR.out.drew)
     refine wp_region_till (fun W => Blk W gb 5 (bcs (B16 (fs.take j))).toArray) 13 (by kernel_rfl) ?_
     generalize wr.drew = w4 at *
     refine tM 0 (.slice (some ⟨gb, 0, none⟩) 16 16) hS0 ?_;simp only [zz];refine tM 1 (.int .i64 (p : Int)) hS0 ?_;simp only [zz];refine tU 2 (.int .i64 ((p / 8 : Nat) : Int)) rfl (fun W hW => ix_quo (n := p) (m := 8) rfl rfl rfl (by decide) (by omega)) hS0 ?_;simp only [zz];refine tM 3 (.slice (some ⟨gb, 0, none⟩) 16 16) hS0 ?_;simp only [zz];refine tM 4 (.int .i64 (p : Int)) hS0 ?_;simp only [zz];refine tU 5 (.int .i64 ((p / 8 : Nat) : Int)) rfl (fun W hW => ix_quo (n := p) (m := 8) rfl rfl rfl (by decide) (by omega)) hS0 ?_;simp only [zz];refine tU 6 (.pointer (some ⟨gb, p / 8, none⟩)) rfl (fun W hW => gx_iaddr (i := p / 8) (sz := 1) rfl rfl rfl Tryz.underlying22 size_byte1 (by omega) (by omega)) hS0 ?_;simp only [zz];refine tU 7 (.int .u8 (((B16 (fs.take j)).getD (p / 8) 0).toNat : Int)) rfl (fun W hW => exec_load1 rfl rfl (by kernel_rfl) (blk_byte hW (by rw [B16_len]; omega))) hS0 ?_;simp only [zz];refine tM 8 (.int .i64 (p : Int)) hS0 ?_;simp only [zz];refine tU 9 (.int .i64 ((p % 8 : Nat) : Int)) rfl (fun W hW => ix_rem (n := p) (m := 8) rfl rfl rfl (by decide) (by omega)) hS0 ?_;simp only [zz];refine tU 10 (.int .u8 ((128 / 2 ^ (p % 8) : Nat) : Int)) rfl (fun W hW => b8_shr rfl rfl (Nat.mod_lt _ (by decide))) hS0 ?_;simp only [zz];refine tU 11 (.int .u8 (((B16 (fs.take j)).getD (p / 8) 0 ||| UInt8.ofNat (128 / 2 ^ (p % 8))).toNat : Int)) rfl (fun W hW => b8_or rfl rfl rfl (by have := Nat.div_le_self 128 (2 ^ (p % 8)); omega)) hS0 ?_;simp only [zz];refine tU 12 (.pointer (some ⟨gb, p / 8, none⟩)) rfl (fun W hW => gx_iaddr (i := p / 8) (sz := 1) rfl rfl rfl Tryz.underlying22 size_byte1 (by omega) (by omega)) hS0 ?_
     simp only [zz]
     refine till_step (i := 13) (by kernel_rfl) rfl rfl ?_
     intro K1 HK1
     refine wp_store1 (v := .int .u8 (((B16 (fs.take j)).getD (p / 8) 0 ||| UInt8.ofNat (128 / 2 ^ (p % 8))).toNat : Int)) 5 (.tmp 56) (.tmp 55) rfl hS0 rfl rfl (by rw [bcs_size, B16_len]; omega) rfl rfl size_byte1 ?_
     intro hbz huz
     rw [mbcs_set] at hbz
     have HBZ := zH (show Blk _ gb 5 (bcs (B16 (fs.take (j + 1)))).toArray from by
      rw [HSN.out, B16_snoc _ _ HQ.out HQ2.out.1 HQ2.out.2, ← HP.out]
      exact hbz)
     have HTZ := zH (above HUd.out HGB.out huz)
     clear hbz huz hS0
     generalize w4.setCell ⟨gb, p / 8, none⟩ (.int .u8 (((B16 (fs.take j)).getD (p / 8) 0 ||| UInt8.ofNat (128 / 2 ^ (p % 8))).toNat : Int)) = w5 at *
     refine HK1.out _ _ ⟨fun h => absurd h (by decide), ?_⟩
     clear HK1
     simp only [zz]
     refine till_done (by kernel_rfl) ?_
     refine NoPanic.normal ?_
     cases lb with
     | true =>
       have HFN := zH (show (true) = far64 (fs.take (j + 1)) from by
        rw [HSN.out, far_snoc, ← HLB.out]
        rfl)
       have HB7 := zH (HBgm.out.turn (HT2.out.next HTZ.out) (fun e => e))
       obtain ⟨bG, oG, hgo, hr⟩ := (HF.out.still ((HT0.out.next HT2.out).next HTZ.out)).2.2 (by have := HLT.out; omega)
       injection hgo with hgo
       injection hgo with hgo1 hgo2
       subst hgo1 hgo2
       obtain ⟨f9, hf9⟩ : ∃ f, fs[j]? = some f := ⟨_, List.getElem?_eq_getElem (show j < fs.length from by rw [HNL.out]; exact HLT.out)⟩
       obtain rfl : f9 = f := by
        have := (take_snoc hf9).symm.trans HSN.out
        simpa using this
       have HR7 := zH (hr j f9 hf9)
       clear hr hf9
       go_upto_region 13 with fail
       refine wp_region_lit ?_
       refine wM (.bool true) ?_;simp only [zz];refine wM (.bool true) ?_;simp only [zz]
       refine wpList_skip (by go_simp) ?_
       simp only [zz]
       refine wpList_skip (by go_simp) ?_
       simp only [zz];refine wS (.bool true) (ix_pickT rfl rfl rfl) ?_;simp only [zz];refine wA (.bool true) ?_;simp only [zz]
       go_upto_region 14 with fail
       refine wp_region_lit ?_
       refine wM (.int .i64 (d : Int)) ?_;simp only [zz]
       by_cases h3 : (d : Int) = 3
       ·refine wS (.bool true) (ix_eql rfl rfl rfl (decide_eq_true h3)) ?_;simp only [zz];refine wM (.bool true) ?_;simp only [zz];refine wS (.pointer (some ⟨gm, 1, none⟩)) (xF 0 1) ?_;simp only [zz];refine wS (.slice (some ⟨bF, oF, none⟩) n c) (xL (HB7.out.cell 1)) ?_;simp only [zz];refine wM (.int .i64 (j : Int)) ?_;simp only [zz];refine wS (.pointer (some ⟨bF, oF + j * 2, none⟩)) (gx_iaddr (i := j) (sz := 2) rfl rfl rfl Tryz.underlying27 size_field HLT.out (by omega)) ?_;simp only [zz];refine wS (.pointer (some ⟨bF, oF + j * 2, none⟩)) (xF (oF + j * 2) 0) ?_;simp only [zz];refine wS (.int .i64 f9.1) (xL (HR7.out 0 _ rfl)) ?_;simp only [zz]
        by_cases h4 : f9.1 = 4
        ·have HL12 := zH (amt_len HGD.out HMEM.out h4)
         refine wS (.bool true) (ix_eql rfl rfl rfl (decide_eq_true h4)) ?_;simp only [zz];refine wS (.bool true) (ix_pickT rfl rfl rfl) ?_;simp only [zz];refine wM (.bool true) ?_;simp only [zz];refine wS (.pointer (some ⟨gm, 1, none⟩)) (xF 0 1) ?_;simp only [zz];refine wS (.slice (some ⟨bF, oF, none⟩) n c) (xL (HB7.out.cell 1)) ?_;simp only [zz];refine wM (.int .i64 (j : Int)) ?_;simp only [zz];refine wS (.pointer (some ⟨bF, oF + j * 2, none⟩)) (gx_iaddr (i := j) (sz := 2) rfl rfl rfl Tryz.underlying27 size_field HLT.out (by omega)) ?_;simp only [zz];refine wS (.pointer (some ⟨bF, oF + j * 2 + 1, none⟩)) (xF (oF + j * 2) 1) ?_;simp only [zz];refine wS (strV f9.2) (xL (HR7.out 1 _ rfl)) ?_;simp only [zz];refine wS (strV (f9.2.take 2)) (exec_sto (n := 2) rfl rfl rfl (by rw [HL12.out]; decide)) ?_;simp only [zz]
         by_cases h5 : f9.2.take 2 = [48, 48]
         ·refine wS (.bool false) (sneq_f (l := f9.2.take 2) (m := [48, 48]) rfl rfl rfl h5) ?_;simp only [zz];refine wS (.bool false) (ix_pickT rfl rfl rfl) ?_;simp only [zz]
          have HA5 := zH (show Amt d f9 from fun _ _ => h5)
          clear h3 h4 h5
          have HAN := zH (show ∀ f ∈ fs.take (j + 1), Amt d f from by
           rw [HSN.out]
           intro g hg
           rcases List.mem_append.1 hg with hg | hg
           ·exact HAM.out g hg
           ·obtain rfl := List.mem_singleton.1 hg
            exact HA5.out)
          go_upto_region 10 with fail
          refine wp_region_lit ?_
          refine wM (.int .i64 (j : Int)) ?_;simp only [zz];refine wS (.int .i64 ((j + 1 : Nat) : Int)) (ix_add rfl rfl rfl (by omega) (by omega)) ?_;simp only [zz];refine wA (.int .i64 ((j + 1 : Nat) : Int)) ?_;simp only [zz]
          go_wp2_with fail
          go_roundg (gk - 1)
          case measure => have := HJL.out; have := HLT.out; omega
          case rel => exact ⟨j + 1, _, by have := HJL.out; have := HLT.out; omega, by go_num, rfl, HFN.out, HBZ.out, HTZ.out, HAN.out⟩
         ·refine wS (.bool true) (sneq_t (l := f9.2.take 2) (m := [48, 48]) rfl rfl rfl h5) ?_;simp only [zz];refine wS (.bool true) (ix_pickT rfl rfl rfl) ?_;simp only [zz]
          have HX9 := zH (HREF.out.2 ⟨f9, HMEM.out, fun ha => h5 (ha (by omega) h4)⟩)
          clear h3 h4 h5
          go_wp2_with fail
          go_ret2
          exact enc_err HX9.out ((HT0.out.next HT2.out).next HTZ.out)
        ·refine wS (.bool false) (ix_eql rfl rfl rfl (decide_eq_false h4)) ?_;simp only [zz];refine wS (.bool false) (ix_pickT rfl rfl rfl) ?_;simp only [zz];refine wM (.bool false) ?_;simp only [zz]
         have HA5 := zH (show Amt d f9 from fun _ h => absurd h h4)
         clear h3 h4
         go_upto_region 10 with fail
         refine wp_region_lit ?_
         have HAN := zH (show ∀ f ∈ fs.take (j + 1), Amt d f from by
          rw [HSN.out]
          intro g hg
          rcases List.mem_append.1 hg with hg | hg
          ·exact HAM.out g hg
          ·obtain rfl := List.mem_singleton.1 hg
           exact HA5.out)
         refine wM (.int .i64 (j : Int)) ?_;simp only [zz];refine wS (.int .i64 ((j + 1 : Nat) : Int)) (ix_add rfl rfl rfl (by omega) (by omega)) ?_;simp only [zz];refine wA (.int .i64 ((j + 1 : Nat) : Int)) ?_;simp only [zz]
         go_wp2_with fail
         go_roundg (gk - 1)
         case measure => have := HJL.out; have := HLT.out; omega
         case rel => exact ⟨j + 1, _, by have := HJL.out; have := HLT.out; omega, by go_num, rfl, HFN.out, HBZ.out, HTZ.out, HAN.out⟩
       ·refine wS (.bool false) (ix_eql rfl rfl rfl (decide_eq_false h3)) ?_;simp only [zz];refine wM (.bool false) ?_;simp only [zz]
        have HA5 := zH (show Amt d f9 from fun h => absurd (by omega) h3)
        clear h3
        go_upto_region 10 with fail
        refine wp_region_lit ?_
        have HAN := zH (show ∀ f ∈ fs.take (j + 1), Amt d f from by
         rw [HSN.out]
         intro g hg
         rcases List.mem_append.1 hg with hg | hg
         ·exact HAM.out g hg
         ·obtain rfl := List.mem_singleton.1 hg
          exact HA5.out)
        refine wM (.int .i64 (j : Int)) ?_;simp only [zz];refine wS (.int .i64 ((j + 1 : Nat) : Int)) (ix_add rfl rfl rfl (by omega) (by omega)) ?_;simp only [zz];refine wA (.int .i64 ((j + 1 : Nat) : Int)) ?_;simp only [zz]
        go_wp2_with fail
        go_roundg (gk - 1)
        case measure => have := HJL.out; have := HLT.out; omega
        case rel => exact ⟨j + 1, _, by have := HJL.out; have := HLT.out; omega, by go_num, rfl, HFN.out, HBZ.out, HTZ.out, HAN.out⟩
     | false =>
       have HFN := zH (show (decide ((64 : Int) ≤ (p : Int))) = far64 (fs.take (j + 1)) from by
        rw [HSN.out, far_snoc, ← HLB.out]
        rw [Bool.false_or, decide_eq_decide]
        have := HQ.out
        have := HP.out
        have := HQ2.out
        omega)
       have HB7 := zH (HBgm.out.turn (HT2.out.next HTZ.out) (fun e => e))
       obtain ⟨bG, oG, hgo, hr⟩ := (HF.out.still ((HT0.out.next HT2.out).next HTZ.out)).2.2 (by have := HLT.out; omega)
       injection hgo with hgo
       injection hgo with hgo1 hgo2
       subst hgo1 hgo2
       obtain ⟨f9, hf9⟩ : ∃ f, fs[j]? = some f := ⟨_, List.getElem?_eq_getElem (show j < fs.length from by rw [HNL.out]; exact HLT.out)⟩
       obtain rfl : f9 = f := by
        have := (take_snoc hf9).symm.trans HSN.out
        simpa using this
       have HR7 := zH (hr j f9 hf9)
       clear hr hf9
       go_upto_region 13 with fail
       refine wp_region_lit ?_
       refine wM (.bool false) ?_;simp only [zz];refine wM (.bool false) ?_;simp only [zz];refine wM (.int .i64 (p : Int)) ?_;simp only [zz];refine wS (.bool (decide ((64 : Int) ≤ (p : Int)))) (ix_geq rfl rfl rfl rfl) ?_;simp only [zz];refine wS (.bool (decide ((64 : Int) ≤ (p : Int)))) (ix_pickF rfl rfl rfl) ?_;simp only [zz];refine wA (.bool (decide ((64 : Int) ≤ (p : Int)))) ?_;simp only [zz]
       go_upto_region 14 with fail
       refine wp_region_lit ?_
       refine wM (.int .i64 (d : Int)) ?_;simp only [zz]
       by_cases h3 : (d : Int) = 3
       ·refine wS (.bool true) (ix_eql rfl rfl rfl (decide_eq_true h3)) ?_;simp only [zz];refine wM (.bool true) ?_;simp only [zz];refine wS (.pointer (some ⟨gm, 1, none⟩)) (xF 0 1) ?_;simp only [zz];refine wS (.slice (some ⟨bF, oF, none⟩) n c) (xL (HB7.out.cell 1)) ?_;simp only [zz];refine wM (.int .i64 (j : Int)) ?_;simp only [zz];refine wS (.pointer (some ⟨bF, oF + j * 2, none⟩)) (gx_iaddr (i := j) (sz := 2) rfl rfl rfl Tryz.underlying27 size_field HLT.out (by omega)) ?_;simp only [zz];refine wS (.pointer (some ⟨bF, oF + j * 2, none⟩)) (xF (oF + j * 2) 0) ?_;simp only [zz];refine wS (.int .i64 f9.1) (xL (HR7.out 0 _ rfl)) ?_;simp only [zz]
        by_cases h4 : f9.1 = 4
        ·have HL12 := zH (amt_len HGD.out HMEM.out h4)
         refine wS (.bool true) (ix_eql rfl rfl rfl (decide_eq_true h4)) ?_;simp only [zz];refine wS (.bool true) (ix_pickT rfl rfl rfl) ?_;simp only [zz];refine wM (.bool true) ?_;simp only [zz];refine wS (.pointer (some ⟨gm, 1, none⟩)) (xF 0 1) ?_;simp only [zz];refine wS (.slice (some ⟨bF, oF, none⟩) n c) (xL (HB7.out.cell 1)) ?_;simp only [zz];refine wM (.int .i64 (j : Int)) ?_;simp only [zz];refine wS (.pointer (some ⟨bF, oF + j * 2, none⟩)) (gx_iaddr (i := j) (sz := 2) rfl rfl rfl Tryz.underlying27 size_field HLT.out (by omega)) ?_;simp only [zz];refine wS (.pointer (some ⟨bF, oF + j * 2 + 1, none⟩)) (xF (oF + j * 2) 1) ?_;simp only [zz];refine wS (strV f9.2) (xL (HR7.out 1 _ rfl)) ?_;simp only [zz];refine wS (strV (f9.2.take 2)) (exec_sto (n := 2) rfl rfl rfl (by rw [HL12.out]; decide)) ?_;simp only [zz]
         by_cases h5 : f9.2.take 2 = [48, 48]
         ·refine wS (.bool false) (sneq_f (l := f9.2.take 2) (m := [48, 48]) rfl rfl rfl h5) ?_;simp only [zz];refine wS (.bool false) (ix_pickT rfl rfl rfl) ?_;simp only [zz]
          have HA5 := zH (show Amt d f9 from fun _ _ => h5)
          clear h3 h4 h5
          have HAN := zH (show ∀ f ∈ fs.take (j + 1), Amt d f from by
           rw [HSN.out]
           intro g hg
           rcases List.mem_append.1 hg with hg | hg
           ·exact HAM.out g hg
           ·obtain rfl := List.mem_singleton.1 hg
            exact HA5.out)
          go_upto_region 10 with fail
          refine wp_region_lit ?_
          refine wM (.int .i64 (j : Int)) ?_;simp only [zz];refine wS (.int .i64 ((j + 1 : Nat) : Int)) (ix_add rfl rfl rfl (by omega) (by omega)) ?_;simp only [zz];refine wA (.int .i64 ((j + 1 : Nat) : Int)) ?_;simp only [zz]
          go_wp2_with fail
          go_roundg (gk - 1)
          case measure => have := HJL.out; have := HLT.out; omega
          case rel => exact ⟨j + 1, _, by have := HJL.out; have := HLT.out; omega, by go_num, rfl, HFN.out, HBZ.out, HTZ.out, HAN.out⟩
         ·refine wS (.bool true) (sneq_t (l := f9.2.take 2) (m := [48, 48]) rfl rfl rfl h5) ?_;simp only [zz];refine wS (.bool true) (ix_pickT rfl rfl rfl) ?_;simp only [zz]
          have HX9 := zH (HREF.out.2 ⟨f9, HMEM.out, fun ha => h5 (ha (by omega) h4)⟩)
          clear h3 h4 h5
          go_wp2_with fail
          go_ret2
          exact enc_err HX9.out ((HT0.out.next HT2.out).next HTZ.out)
        ·refine wS (.bool false) (ix_eql rfl rfl rfl (decide_eq_false h4)) ?_;simp only [zz];refine wS (.bool false) (ix_pickT rfl rfl rfl) ?_;simp only [zz];refine wM (.bool false) ?_;simp only [zz]
         have HA5 := zH (show Amt d f9 from fun _ h => absurd h h4)
         clear h3 h4
         go_upto_region 10 with fail
         refine wp_region_lit ?_
         have HAN := zH (show ∀ f ∈ fs.take (j + 1), Amt d f from by
          rw [HSN.out]
          intro g hg
          rcases List.mem_append.1 hg with hg | hg
          ·exact HAM.out g hg
          ·obtain rfl := List.mem_singleton.1 hg
           exact HA5.out)
         refine wM (.int .i64 (j : Int)) ?_;simp only [zz];refine wS (.int .i64 ((j + 1 : Nat) : Int)) (ix_add rfl rfl rfl (by omega) (by omega)) ?_;simp only [zz];refine wA (.int .i64 ((j + 1 : Nat) : Int)) ?_;simp only [zz]
         go_wp2_with fail
         go_roundg (gk - 1)
         case measure => have := HJL.out; have := HLT.out; omega
         case rel => exact ⟨j + 1, _, by have := HJL.out; have := HLT.out; omega, by go_num, rfl, HFN.out, HBZ.out, HTZ.out, HAN.out⟩
       ·refine wS (.bool false) (ix_eql rfl rfl rfl (decide_eq_false h3)) ?_;simp only [zz];refine wM (.bool false) ?_;simp only [zz]
        have HA5 := zH (show Amt d f9 from fun h => absurd (by omega) h3)
        clear h3
        go_upto_region 10 with fail
        refine wp_region_lit ?_
        have HAN := zH (show ∀ f ∈ fs.take (j + 1), Amt d f from by
         rw [HSN.out]
         intro g hg
         rcases List.mem_append.1 hg with hg | hg
         ·exact HAM.out g hg
         ·obtain rfl := List.mem_singleton.1 hg
          exact HA5.out)
        refine wM (.int .i64 (j : Int)) ?_;simp only [zz];refine wS (.int .i64 ((j + 1 : Nat) : Int)) (ix_add rfl rfl rfl (by omega) (by omega)) ?_;simp only [zz];refine wA (.int .i64 ((j + 1 : Nat) : Int)) ?_;simp only [zz]
        go_wp2_with fail
        go_roundg (gk - 1)
        case measure => have := HJL.out; have := HLT.out; omega
        case rel => exact ⟨j + 1, _, by have := HJL.out; have := HLT.out; omega, by go_num, rfl, HFN.out, HBZ.out, HTZ.out, HAN.out⟩
    ·refine wS (.bool false) (ix_lss rfl rfl rfl (decide_eq_false (by omega))) ?_;simp only [zz]
     cases lb with
     | true =>
       have hall : fs.take j = fs := List.take_of_length_le (by rw [HNL.out]; omega)
       have hlb := HLB.out
       have hb6 := HB6.out
       have ham := HAM.out
       rw [hall] at hlb hb6 ham
       have HENC := zH (HREF.out.1 ham)
       have HSAID := zH ((mencode_ok.1 (HREF.out.1 ham)).2.1.2.2.2)
       have HWL := zH (wire_len HD.out (show Wr d ty fs from by
        have h := (mencode_ok.1 (HREF.out.1 ham)).2.1
        rwa [Int.toNat_natCast] at h))
       have HB9 := zH hb6
       have HFA := zH hlb
       clear hall hlb hb6 ham hlt HLB HB6 HAM HJL
       have HBM9 := zH (HBgm.out.turn (HT2.out.next HTR.out) (fun e => e))
       go_upto_region 16 with fail
       refine wp_region_lit ?_
       refine wM (.bool true) ?_;simp only [zz]
       have HH2 := zH ((far_half HNO.out).1 HFA.out.symm)
       go_upto_region 17 with fail
       refine wp_region_lit ?_
       refine wM (.slice (some ⟨gb, 0, none⟩) 16 16) ?_;simp only [zz];refine wM (.slice (some ⟨gb, 0, none⟩) 16 16) ?_;simp only [zz];refine wS (.pointer (some ⟨gb, 0, none⟩)) (gx_iaddr (i := 0) (sz := 1) rfl rfl rfl Tryz.underlying22 size_byte1 (by decide) (by omega)) ?_;simp only [zz];refine wS (.int .u8 (((B16 fs).getD 0 0).toNat : Int)) (exec_load1 rfl rfl (by kernel_rfl) (blk_byte HB9.out (by rw [B16_len]; decide))) ?_;simp only [zz];refine wS (.int .u8 (((B16 fs).getD 0 0 ||| UInt8.ofNat 128).toNat : Int)) (b8_or rfl rfl rfl (by decide)) ?_;simp only [zz];refine wS (.pointer (some ⟨gb, 0, none⟩)) (gx_iaddr (i := 0) (sz := 1) rfl rfl rfl Tryz.underlying22 size_byte1 (by decide) (by omega)) ?_;simp only [zz]
       refine wpList_store1 (v := .int .u8 (((B16 fs).getD 0 0 ||| UInt8.ofNat 128).toNat : Int)) rfl 5 (.tmp 89) (.tmp 88) rfl HB9.out rfl rfl (by rw [bcs_size, B16_len]; decide) rfl rfl size_byte1 ?_
       intro hbz huz
       rw [mbcs_set] at hbz
       have HBX := zH (show Blk _ gb 5 (bcs (bitsL fs)).toArray from by
        rw [← bits_far HH2.out]
        exact hbz)
       have HTL := zH (above HTR.out HGB.out huz)
       have HBM := zH (HBM9.out.turn huz (fun e => by
        have e : gm = gb := e
        have h1 := HBgm.out.lt
        have h2 := HT2.out.size
        have h3 := HGB.out
        omega))
       clear hbz huz
       generalize wr.setCell ⟨gb, 0, none⟩ (.int .u8 (((B16 fs).getD 0 0 ||| UInt8.ofNat 128).toNat : Int)) = w5 at *
       try simp only [zz]
       have HXT := zH (show (bitsL fs).take 16 = bitsL fs from List.take_of_length_le (by unfold bitsL; rw [if_neg HH2.out, List.length_append, be_len, be_len]; decide))
       have HXL := zH (show (bitsL fs).length = 16 from by unfold bitsL; rw [if_neg HH2.out, List.length_append, be_len, be_len])
       have HXM := zH (show (bitsL fs).length = 16 from by unfold bitsL; rw [if_neg HH2.out, List.length_append, be_len, be_len])
       clear HTR HB9 HBM9 HFA HREF
       obtain ⟨T, hT⟩ : ∃ T, T = (typeFm d).put (ver d ++ dig3 ty.toNat) := ⟨_, rfl⟩
       have HTT := zH hT
       have HPL := zH (show ∀ k, (T ++ mapB d ((bitsL fs).take k)).length ≤ 500 from fun k => by
        have h1 := HWL.out
        unfold wire at h1
        rw [← HTT.out, mapPut_bits HD.out, ← List.take_append_drop k (bitsL fs), mapB_append] at h1
        simp only [List.length_append] at h1 ⊢
        omega)
       have HBL := zH (show ∀ k, (T ++ mapPut d fs ++ body d (fs.take k)).length ≤ 500 from fun k => by
        have h1 := HWL.out
        have h2 := body_take_le d fs k
        unfold wire at h1
        rw [← HTT.out] at h1
        simp only [List.length_append] at h1 ⊢
        omega)
       have HWI := zH (show wire d ty fs = T ++ mapPut d fs ++ body d fs from by
        unfold wire
        rw [← HTT.out, List.append_assoc])
       clear hT
       go_upto_region 19 with fail
       have hS0 : Blk w5.drew gm 29 #[.int .i64 ty, .slice A n c] := HBM.out.drew
       have HTD := zH (Turn.drew (Turn.refl nowhere w5))
       refine wp_region_alw (fun W => Blk W gm 29 #[.int .i64 ty, .slice A n c]) (by kernel_rfl) ?_
       generalize w5.drew = w6 at *
       refine aM 0 (.int .i64 (d : Int)) hS0 ?_;simp only [zz];refine aM 2 (.int .i64 (d : Int)) hS0 ?_;simp only [zz];refine aU 3 (.pointer (some ⟨gm, 0, none⟩)) rfl (fun W hW => xF 0 0) hS0 ?_;simp only [zz];refine aU 4 (.int .i64 ty) rfl (fun W hW => xL (hW.cell 0)) hS0 ?_;simp only [zz]
       refine alw_step (i := 1) (by kernel_rfl) rfl rfl ?_
       intro K1 HK1
       go_wp2_with fail
       refine (number_walk (w := w6) (dd := (d : Int)) (sz := 4)).mono ?_
       rintro e w7 ⟨rfl, ht7⟩
       have hS1 := hS0.turn ht7 (fun e => e)
       refine HK1.out _ _ ⟨hS1, ?_⟩
       have HT7 := zH ht7
       clear HK1 hS0 ht7
       try simp only [zz]
       have hH := head_ty (w := w7) HD.out HTY.out
       refine alw_step (i := 5) (by kernel_rfl) rfl rfl ?_
       intro K1 HK1
       go_wp2_with fail
       refine hH.mono ?_
       rintro e w8 ⟨rfl, ht8⟩
       have hS2 := hS1.turn ht8 (fun e => e)
       refine HK1.out _ _ ⟨hS2, ?_⟩
       have HT8 := zH ht8
       clear HK1 hS1 ht8 hH
       try simp only [zz]
       have hP := put_type (w := w8) HD.out HTY.out
       rw [← HTT.out] at hP
       refine alw_step (i := 6) (by kernel_rfl) rfl rfl ?_
       intro K1 HK1
       go_wp2_with fail
       refine hP.mono ?_
       rintro e w9 ⟨A9, n9, c9, rfl, ho9, ht9⟩
       have hS3 := hS2.turn ht9 (fun e => e)
       refine HK1.out _ _ ⟨hS3, ?_⟩
       have HT9 := zH ht9
       have HO9 := zH ho9
       clear HK1 hS2 ht9 ho9 hP
       try simp only [zz]
       refine aM 7 (.tuple #[.slice A9 n9 c9, .int .i64 0]) hS3 ?_;simp only [zz];refine aU 8 (.slice A9 n9 c9) rfl (fun W hW => ix_extract rfl rfl rfl) hS3 ?_;simp only [zz];refine aU 9 (.int .i64 0) rfl (fun W hW => ix_extract rfl rfl rfl) hS3 ?_;simp only [zz];refine aU 10 (.slice A9 n9 c9) rfl (fun W hW => gx_assign rfl rfl) hS3 ?_;simp only [zz];refine aU 11 (.int .i64 0) rfl (fun W hW => gx_assign rfl rfl) hS3 ?_;simp only [zz]
       refine alw_done rfl ?_
       clear hS3
       refine NoPanic.normal ?_
       have HGP := zH (show gb < w8.heap.size from by
        have h1 := HBX.out.lt
        have h2 := HTD.out.size
        have h3 := HT7.out.size
        have h4 := HT8.out.size
        omega)
       have HBX8 := zH (HBX.out.turn ((HTD.out.next HT7.out).next HT8.out) (fun e => e))
       go_upto_region 20 with fail
       refine wp_region_lit ?_
       refine wA (.int .i64 0) ?_;simp only [zz]
       go_wp2_with fail
       go_loopg [11, 13] 16 (fun gk bv jv wr => ∃ (k : Nat) (A' : Option Addr) (n' c' : Nat), k + gk = 16 ∧ jv = .int .i64 (k : Int) ∧ bv = .slice A' n' c' ∧ Own wr w8.heap.size 5 (.slice A' n' c') (T ++ mapB d ((bitsL fs).take k)) ∧ Turn nowhere w8 wr)
       case atStart => exact ⟨0, _, _, _, by omega, rfl, rfl, by rw [List.take_zero, show mapB d [] = [] from by unfold mapB; split <;> rfl, List.append_nil]; exact HO9.out, HT9.out⟩
       obtain ⟨k, A', n', c', hkl, rfl, rfl, ho, htr⟩ := hrel
       have HKL := zH hkl
       have HO := zH ho
       have HTR := zH htr
       clear hkl ho htr
       go_upto_region 21 with fail
       refine wp_region_lit ?_
       refine wM (.int .i64 (k : Int)) ?_;simp only [zz];refine wM (.slice (some ⟨gb, 0, none⟩) 16 16) ?_;simp only [zz];refine wS (.int .i64 16) (gx_len rfl rfl Tryz.underlying22) ?_;simp only [zz]
       by_cases hk : k < 16
       ·refine wS (.bool true) (ix_lss rfl rfl rfl (decide_eq_true (by omega))) ?_;simp only [zz]
        have HK := zH hk
        have y4 : (k : Int) < 16 := by omega
        obtain ⟨x, hx⟩ : ∃ x, x = (bitsL fs).getD k 0 := ⟨_, rfl⟩
        have HX := zH hx
        have HBK := zH (HBX8.out.turn HTR.out (fun e => e))
        have HMB := zH (show (bitsL fs).take (k + 1) = (bitsL fs).take k ++ [x] from by
         have h1 : (bitsL fs)[k]? = some x := by
          rw [← HXT.out, List.getElem?_take, if_pos hk, hx, List.getD, List.getElem?_eq_getElem (by rw [HXL.out]; omega)]
          rfl
         rw [List.take_add_one, h1]
         rfl)
        have hP0 := HPL.out k
        clear hk hx
        go_upto_region 23 with fail
        refine wp_region_lit ?_
        refine wM (.int .i64 (d : Int)) ?_;simp only [zz]
        by_cases h1 : (d : Int) = 1
        ·refine wS (.bool true) (ix_eql rfl rfl rfl (decide_eq_true h1)) ?_;simp only [zz]
         have HD1 := zH (show d = 1 by omega)
         clear h1
         go_upto_region 24 with fail
         have hS0 : Blk wr.drew gb 5 (bcs (bitsL fs)).toArray := HBK.out.drew
         have HOd := zH (HO.out.drew)
         have HTd := zH (HTR.out.drew)
         refine wp_region_alw (fun W => Blk W gb 5 (bcs (bitsL fs)).toArray) (by kernel_rfl) ?_
         generalize wr.drew = wa at *
         refine aM 0 (.slice A' n' c') hS0 ?_;simp only [zz];refine aM 1 (.slice (some ⟨gb, 0, none⟩) 16 16) hS0 ?_;simp only [zz];refine aM 2 (.int .i64 (k : Int)) hS0 ?_;simp only [zz];refine aU 3 (.pointer (some ⟨gb, k, none⟩)) rfl (fun W hW => gx_iaddr (i := k) (sz := 1) rfl rfl rfl Tryz.underlying22 size_byte1 (by have := HK.out; omega) (by omega)) hS0 ?_;simp only [zz];refine aU 4 (.int .u8 (x.toNat : Int)) rfl (fun W hW => exec_load1 rfl rfl (by kernel_rfl) (by rw [HX.out]; exact blk_byte hW (by rw [HXL.out]; have := HK.out; omega))) hS0 ?_;simp only [zz];refine aU 5 (.int .u8 ((x.toNat / 16 : Nat) : Int)) rfl (fun W hW => b8_quo rfl rfl (UInt8.toNat_lt _)) hS0 ?_;simp only [zz];refine aU 6 (.int .u8 ((hexU.getD (x.toNat / 16) 0).toNat : Int)) rfl (fun W hW => exec_sidx (l := hexU) (i := x.toNat / 16) rfl rfl rfl (by have := UInt8.toNat_lt x; show x.toNat / 16 < 16; omega)) hS0 ?_;simp only [zz];refine aM 7 (.slice (some ⟨gb, 0, none⟩) 16 16) hS0 ?_;simp only [zz];refine aM 8 (.int .i64 (k : Int)) hS0 ?_;simp only [zz];refine aU 9 (.pointer (some ⟨gb, k, none⟩)) rfl (fun W hW => gx_iaddr (i := k) (sz := 1) rfl rfl rfl Tryz.underlying22 size_byte1 (by have := HK.out; omega) (by omega)) hS0 ?_;simp only [zz];refine aU 10 (.int .u8 (x.toNat : Int)) rfl (fun W hW => exec_load1 rfl rfl (by kernel_rfl) (by rw [HX.out]; exact blk_byte hW (by rw [HXL.out]; have := HK.out; omega))) hS0 ?_;simp only [zz];refine aU 11 (.int .u8 ((x.toNat % 16 : Nat) : Int)) rfl (fun W hW => b8_rem rfl rfl) hS0 ?_
         simp only [zz];refine aU 12 (.int .u8 ((hexU.getD (x.toNat % 16) 0).toNat : Int)) rfl (fun W hW => exec_sidx (l := hexU) (i := x.toNat % 16) rfl rfl rfl (by show x.toNat % 16 < 16; omega)) hS0 ?_;simp only [zz]
         have hu2 := (Turn.refl nowhere wa).alloc (.cells (bcs [hexU.getD (x.toNat / 16) 0, hexU.getD (x.toNat % 16) 0]).toArray 5)
         have hs2 := bs_blk (Blk.new wa 5 (bcs [hexU.getD (x.toNat / 16) 0, hexU.getD (x.toNat % 16) 0]).toArray) (n := 2) rfl (by unfold maxLen; omega)
         have ho2 := own_still HOd.out hu2
         have hS1 := hS0.turn hu2 (fun e => e)
         refine alw_step (i := 13) (by kernel_rfl) rfl rfl ?_
         intro K1 HK1
         refine wp_run (exec_two rfl rfl rfl) ?_
         refine HK1.out _ _ ⟨hS1, ?_⟩
         clear HK1 hS0
         obtain ⟨g2, hg2⟩ : ∃ g, g = wa.heap.size := ⟨_, rfl⟩
         rw [← hg2] at hs2 ⊢
         clear hg2
         generalize wa.alloc (.cells (bcs [hexU.getD (x.toNat / 16) 0, hexU.getD (x.toNat % 16) 0]).toArray 5) = wb at *
         try simp only [zz]
         refine alw_step (i := 14) (by kernel_rfl) rfl rfl ?_
         intro K1 HK1
         refine wp_append_bytes wb _ _ _ rfl w8.heap.size 5 byteInfo Tryz.underlying22 _ _ rfl ho2 _ 2 2 [hexU.getD (x.toNat / 16) 0, hexU.getD (x.toNat % 16) 0] rfl hs2 (fun h => by cases h) (by omega) (Nat.le_trans HTd.out.size hu2.size) ?_
         intro v5 w10 ho5 hb5
         obtain ⟨A5, n5, c5, rfl, _⟩ := ho5.form
         have hS2 : Blk w10 gb 5 (bcs (bitsL fs)).toArray := (hb5.block gb HGP.out).trans hS1
         refine HK1.out _ _ ⟨hS2, ?_⟩
         clear HK1 hS1
         try simp only [zz]
         have HON := zH (show Own w10 w8.heap.size 5 (.slice A5 n5 c5) (T ++ mapB d ((bitsL fs).take (k + 1))) from by
          rw [HMB.out, mapB_append, ← List.append_assoc, show mapB d [x] = [hexU.getD (x.toNat / 16) 0, hexU.getD (x.toNat % 16) 0] from by unfold mapB; rw [if_pos HD1.out]; rfl]
          exact ho5)
         have HTN := zH (Turn.of_below (((HTd.out.next hu2).below (Nat.le_refl _) (fun _ _ e=>e)).trans hb5) (Nat.le_refl _))
         clear ho5 hb5 ho2 hs2 hu2
         refine aU 15 (.slice A5 n5 c5) rfl (fun W hW => gx_assign rfl rfl) hS2 ?_;simp only [zz]
         refine alw_done rfl ?_
         clear hS2
         refine NoPanic.normal ?_
         go_upto_region 22 with fail
         refine wp_region_lit ?_
         refine wM (.int .i64 (k : Int)) ?_;simp only [zz];refine wS (.int .i64 ((k + 1 : Nat) : Int)) (ix_add rfl rfl rfl (by omega) (by omega)) ?_;simp only [zz];refine wA (.int .i64 ((k + 1 : Nat) : Int)) ?_;simp only [zz]
         go_wp2_with fail
         go_roundg (gk - 1)
         case measure => have := HKL.out; have := HK.out; omega
         case rel => exact ⟨k + 1, _, _, _, by have := HKL.out; have := HK.out; omega, by go_num, rfl, HON.out, HTN.out⟩
        ·refine wS (.bool false) (ix_eql rfl rfl rfl (decide_eq_false h1)) ?_;simp only [zz]
         have HD1 := zH (show ¬ d = 1 by omega)
         clear h1
         go_upto_region 25 with fail
         refine wp_region_lit ?_
         refine wM (.slice A' n' c') ?_;simp only [zz];refine wM (.slice (some ⟨gb, 0, none⟩) 16 16) ?_;simp only [zz];refine wM (.int .i64 (k : Int)) ?_;simp only [zz];refine wS (.pointer (some ⟨gb, k, none⟩)) (gx_iaddr (i := k) (sz := 1) rfl rfl rfl Tryz.underlying22 size_byte1 (by have := HK.out; omega) (by omega)) ?_;simp only [zz];refine wS (.int .u8 (x.toNat : Int)) (exec_load1 rfl rfl (by kernel_rfl) (by rw [HX.out]; exact blk_byte HBK.out (by rw [HXL.out]; have := HK.out; omega))) ?_;simp only [zz]
         refine wR (v := .slice (some ⟨wr.heap.size, 0, none⟩) 1 1) (w' := wr.alloc (.cells (bcs [x]).toArray 5)) rfl (exec_one (z := x) rfl rfl) ?_
         simp only [zz]
         have hu2 := (Turn.refl nowhere wr).alloc (.cells (bcs [x]).toArray 5)
         have hs2 := bs_blk (Blk.new wr 5 (bcs [x]).toArray) (n := 1) rfl (by unfold maxLen; omega)
         have ho2 := own_still HO.out hu2
         obtain ⟨g2, hg2⟩ : ∃ g, g = wr.heap.size := ⟨_, rfl⟩
         rw [← hg2] at hs2 ⊢
         clear hg2
         generalize wr.alloc (.cells (bcs [x]).toArray 5) = wb at *
         refine wpList_append_bytes wb rfl _ _ _ rfl w8.heap.size 5 byteInfo Tryz.underlying22 _ _ rfl ho2 _ 1 1 [x] rfl hs2 (fun h => by cases h) (by omega) (Nat.le_trans HTR.out.size hu2.size) ?_
         intro v5 w10 ho5 hb5
         obtain ⟨A5, n5, c5, rfl, _⟩ := ho5.form
         simp only [zz]
         have HON := zH (show Own w10 w8.heap.size 5 (.slice A5 n5 c5) (T ++ mapB d ((bitsL fs).take (k + 1))) from by
          rw [HMB.out, mapB_append, ← List.append_assoc, show mapB d [x] = [x] from by unfold mapB; rw [if_neg HD1.out]]
          exact ho5)
         have HTN := zH (Turn.of_below (((HTR.out.next hu2).below (Nat.le_refl _) (fun _ _ e=>e)).trans hb5) (Nat.le_refl _))
         clear ho5 hb5 ho2 hs2 hu2
         refine wA (.slice A5 n5 c5) ?_;simp only [zz]
         go_upto_region 22 with fail
         refine wp_region_lit ?_
         refine wM (.int .i64 (k : Int)) ?_;simp only [zz];refine wS (.int .i64 ((k + 1 : Nat) : Int)) (ix_add rfl rfl rfl (by omega) (by omega)) ?_;simp only [zz];refine wA (.int .i64 ((k + 1 : Nat) : Int)) ?_;simp only [zz]
         go_wp2_with fail
         go_roundg (gk - 1)
         case measure => have := HKL.out; have := HK.out; omega
         case rel => exact ⟨k + 1, _, _, _, by have := HKL.out; have := HK.out; omega, by go_num, rfl, HON.out, HTN.out⟩
       ·refine wS (.bool false) (ix_lss rfl rfl rfl (decide_eq_false (by omega))) ?_;simp only [zz]
        have HOW := zH (show Own wr w8.heap.size 5 (.slice A' n' c') (T ++ mapPut d fs) from by
         have h1 := HO.out
         rw [List.take_of_length_le (by rw [HXM.out]; omega), ← mapPut_bits HD.out] at h1
         exact h1)
        have HTW := zH HTR.out
        clear hk HO HTR HKL
        go_upto_region 26 with fail
        refine wp_region_lit ?_
        refine wA (.int .i64 0) ?_;simp only [zz]
        go_wp2_with fail
        go_loopg [11, 14] n (fun gk bv jv wq => ∃ (j : Nat) (A' : Option Addr) (n' c' : Nat), j + gk = n ∧ jv = .int .i64 (j : Int) ∧ bv = .slice A' n' c' ∧ Own wq w8.heap.size 5 (.slice A' n' c') (T ++ mapPut d fs ++ body d (fs.take j)) ∧ Turn nowhere w8 wq)
        case atStart => exact ⟨0, _, _, _, by omega, rfl, rfl, by rw [List.take_zero, show body d [] = [] from rfl, List.append_nil]; exact HOW.out, HTW.out⟩
        clear HOW HTW
        obtain ⟨j, A', n', c', hjl, rfl, rfl, ho, htr⟩ := hrel
        have HJL := zH hjl
        have HO := zH ho
        have HTR := zH htr
        clear hjl ho htr
        have HB2 := zH ((HBgm.out.turn (((((HT2.out.next HTL.out).next HTD.out).next HT7.out).next HT8.out).next HTR.out) (fun e => e)))
        go_upto_region 27 with fail
        refine wp_region_lit ?_
        refine wM (.int .i64 (j : Int)) ?_;simp only [zz];refine wS (.pointer (some ⟨gm, 1, none⟩)) (xF 0 1) ?_;simp only [zz];refine wS (.slice A n c) (xL (HB2.out.cell 1)) ?_;simp only [zz];refine wS (.int .i64 (n : Int)) (gx_len rfl rfl Tryz.underlying27) ?_;simp only [zz]
        by_cases hlt : j < n
        ·have HLT := zH hlt
         have y1 : (j : Int) < (n : Int) := by omega
         obtain ⟨bF, oF, rfl, hr⟩ := (HF.out.still ((((((HT0.out.next HT2.out).next HTL.out).next HTD.out).next HT7.out).next HT8.out).next HTR.out)).2.2 (by omega)
         obtain ⟨f, hf⟩ : ∃ f, fs[j]? = some f := ⟨_, List.getElem?_eq_getElem (show j < fs.length from by rw [HNL.out]; exact hlt)⟩
         have hmem := List.mem_of_getElem? hf
         have HRR := zH (hr j f hf)
         have HSN := zH (take_snoc hf)
         have HTF := zH (HTX.out f hmem)
         have hsd := HSAID.out f hmem
         rw [Int.toNat_natCast] at hsd
         obtain ⟨m1, hm1, hc1⟩ := HGD.out.2 f hmem
         have HSAY := zH (say_amt ((said_amt HD.out hm1 hc1).1 hsd))
         obtain ⟨m, hm, hc⟩ := hsd
         have HM := zH hm
         have HC := zH hc
         have HL12 := zH (fun h4 => amt_len HGD.out hmem h4)
         have HB0 := zH (HBL.out j)
         clear hr hf hlt hmem hm1 hc1 hm hc
         refine wS (.bool true) (ix_lss rfl rfl rfl (decide_eq_true y1)) ?_;simp only [zz]
         go_upto_region 29 with fail
         refine wp_region_lit ?_
         refine wM (.int .i64 (d : Int)) ?_;simp only [zz];refine wS (.pointer (some ⟨gm, 1, none⟩)) (xF 0 1) ?_;simp only [zz];refine wS (.slice (some ⟨bF, oF, none⟩) n c) (xL (HB2.out.cell 1)) ?_;simp only [zz];refine wM (.int .i64 (j : Int)) ?_;simp only [zz];refine wS (.pointer (some ⟨bF, oF + j * 2, none⟩)) (gx_iaddr (i := j) (sz := 2) rfl rfl rfl Tryz.underlying27 size_field HLT.out (by omega)) ?_;simp only [zz];refine wS (.pointer (some ⟨bF, oF + j * 2, none⟩)) (xF (oF + j * 2) 0) ?_;simp only [zz];refine wS (.int .i64 f.1) (xL (HRR.out 0 _ rfl)) ?_;simp only [zz]
         have hFm := rForm_walk (w := wr) (dd := (d : Int)) (no := f.1)
         rw [show formE (d : Int) f.1 = (m, 0) from by
          unfold formE
          rw [if_pos HDI.out, Int.toNat_natCast, HM.out]] at hFm
         refine wpList_op rfl fun K9 HK9 => ?_
         go_wp2_with fail
         refine (hFm).mono ?_
         rintro e w10 ⟨rfl, htx⟩
         refine HK9.out _ _ ?_
         clear HK9
         try simp only [zz]
         clear hFm
         have HT10 := zH htx
         clear htx
         refine wM (.tuple #[.agg (fmA m), .int .i64 0]) ?_;simp only [zz];refine wE (.agg (fmA m)) ?_;simp only [zz];refine wE (.int .i64 0) ?_;simp only [zz]
         refine wpList_new 105 (.tmp 15) (.tmp 148) (fmA m) rfl rfl (zero_fm _) rfl rfl rfl rfl rfl rfl (by rw [size_form]; rfl) (fmA_one _) ?_
         intro w11 g11 _ hbx hux
         simp only [zz]
         have HBg11 := zH hbx
         have HT11 := zH hux
         clear hbx hux
         have HB3 := zH (HB2.out.turn (HT10.out.next HT11.out) (fun e => e))
         have HR3 := zH (show w11.rangeAt bF (oF + j * 2) (fldA f).toList from fun i v hv => ((HT10.out.next HT11.out).cell (World.block_lt_of_cell? _ _ (HRR.out i v hv)) (fun e => e)).trans (HRR.out i v hv))
         refine wA (.int .i64 0) ?_;simp only [zz]
         go_upto_region 30 with fail
         refine wp_region_lit ?_
         refine wS (.pointer (some ⟨gm, 1, none⟩)) (xF 0 1) ?_;simp only [zz];refine wS (.slice (some ⟨bF, oF, none⟩) n c) (xL (HB3.out.cell 1)) ?_;simp only [zz];refine wM (.int .i64 (j : Int)) ?_;simp only [zz];refine wS (.pointer (some ⟨bF, oF + j * 2, none⟩)) (gx_iaddr (i := j) (sz := 2) rfl rfl rfl Tryz.underlying27 size_field HLT.out (by omega)) ?_;simp only [zz];refine wS (.pointer (some ⟨bF, oF + j * 2 + 1, none⟩)) (xF (oF + j * 2) 1) ?_;simp only [zz];refine wS (strV f.2) (xL (HR3.out 1 _ rfl)) ?_;simp only [zz];refine wA (strV f.2) ?_;simp only [zz]
         go_upto_region 31 with fail
         refine wp_region_lit ?_
         refine wM (.int .i64 (d : Int)) ?_;simp only [zz]
         by_cases h3 : (d : Int) = 3
         ·refine wS (.bool true) (ix_eql rfl rfl rfl (decide_eq_true h3)) ?_;simp only [zz];refine wM (.bool true) ?_;simp only [zz];refine wS (.pointer (some ⟨gm, 1, none⟩)) (xF 0 1) ?_;simp only [zz];refine wS (.slice (some ⟨bF, oF, none⟩) n c) (xL (HB3.out.cell 1)) ?_;simp only [zz];refine wM (.int .i64 (j : Int)) ?_;simp only [zz];refine wS (.pointer (some ⟨bF, oF + j * 2, none⟩)) (gx_iaddr (i := j) (sz := 2) rfl rfl rfl Tryz.underlying27 size_field HLT.out (by omega)) ?_;simp only [zz];refine wS (.pointer (some ⟨bF, oF + j * 2, none⟩)) (xF (oF + j * 2) 0) ?_;simp only [zz];refine wS (.int .i64 f.1) (xL (HR3.out 0 _ rfl)) ?_;simp only [zz]
          by_cases h4 : f.1 = 4
          ·refine wS (.bool true) (ix_eql rfl rfl rfl (decide_eq_true h4)) ?_;simp only [zz];refine wS (.bool true) (ix_pickT rfl rfl rfl) ?_;simp only [zz]
           have HL2 := zH (HL12.out h4)
           have H3 := zH h3
           have H4 := zH h4
           clear h3 h4
           go_upto_region 32 with fail
           refine wp_region_lit ?_
           refine wM (strV f.2) ?_;simp only [zz];refine wS (strV (f.2.drop 2)) (exec_sfrom (n := 2) rfl rfl rfl (by rw [HL2.out]; decide)) ?_;simp only [zz];refine wA (strV (f.2.drop 2)) ?_;simp only [zz]
           have HSX := zH (show say d f = f.2.drop 2 from by rw [HSAY.out, if_pos ⟨by have := H3.out; omega, H4.out⟩])
           clear H3 H4
           obtain ⟨A6, n6, c6, hf6, hb6, hnc6, hz6⟩ := HO.out.form
           injection hf6 with g1 g2 g3
           subst g1 g2 g3
           have HB6 := zH hb6
           have HZ6 := zH hz6
           have HN6 := zH (show n' ≤ 500 from by rw [← hb6.1]; exact HB0.out)
           clear hb6 hnc6 hz6
           go_upto_region 33 with fail
           refine wp_region_lit ?_
           refine wM (.slice A' n' c') ?_;simp only [zz];refine wS (.agg (fmA m)) (gx_loads rfl rfl (blk_range HBg11.out) Tryz.underlying105 rfl (by rw [size_form]; rfl)) ?_;simp only [zz];refine wM (strV (f.2.drop 2)) ?_;simp only [zz]
           have hP := rput_ok (w := w11) (cap := c') HC.out (bs_still HB6.out (HT10.out.next HT11.out)) HZ6.out (by have := HN6.out; omega) (by rw [HSX.out]; have := HTF.out; rw [List.length_drop]; omega)
           rw [HSX.out] at hP
           refine wpList_op rfl fun K9 HK9 => ?_
           go_wp2_with fail
           refine (hP).mono ?_
           rintro e w12 ⟨A7, n7, c7, rfl, hox, htx⟩
           refine HK9.out _ _ ?_
           clear HK9
           try simp only [zz]
           clear hP
           have HON := zH (show Own w12 w8.heap.size 5 (.slice A7 n7 c7) (T ++ mapPut d fs ++ body d (fs.take (j + 1))) from by
            rw [HSN.out, body_snoc, ← List.append_assoc, show sayPut d f = m.put (f.2.drop 2) from by unfold sayPut; rw [HM.out]; show m.put (say d f) = _; rw [HSX.out]]
            exact own_base hox (Nat.le_trans HTR.out.size (HT10.out.next HT11.out).size))
           have HTN := zH (((HTR.out.next HT10.out).next HT11.out).next htx)
           clear hox htx
           refine wM (.tuple #[.slice A7 n7 c7, .int .i64 0]) ?_;simp only [zz];refine wE (.slice A7 n7 c7) ?_;simp only [zz];refine wE (.int .i64 0) ?_;simp only [zz];refine wA (.slice A7 n7 c7) ?_;simp only [zz]
           go_upto_region 28 with fail
           refine wp_region_lit ?_
           refine wM (.int .i64 (j : Int)) ?_;simp only [zz];refine wS (.int .i64 ((j + 1 : Nat) : Int)) (ix_add rfl rfl rfl (by omega) (by omega)) ?_;simp only [zz];refine wA (.int .i64 ((j + 1 : Nat) : Int)) ?_;simp only [zz]
           go_wp2_with fail
           go_roundg (gk - 1)
           case measure => have := HJL.out; have := HLT.out; omega
           case rel => exact ⟨j + 1, _, _, _, by have := HJL.out; have := HLT.out; omega, by go_num, rfl, HON.out, HTN.out⟩
          ·refine wS (.bool false) (ix_eql rfl rfl rfl (decide_eq_false h4)) ?_;simp only [zz];refine wS (.bool false) (ix_pickT rfl rfl rfl) ?_;simp only [zz]
           have HSX := zH (show say d f = f.2 from by rw [HSAY.out, if_neg (fun h => h4 h.2)])
           clear h3 h4
           obtain ⟨A6, n6, c6, hf6, hb6, hnc6, hz6⟩ := HO.out.form
           injection hf6 with g1 g2 g3
           subst g1 g2 g3
           have HB6 := zH hb6
           have HZ6 := zH hz6
           have HN6 := zH (show n' ≤ 500 from by rw [← hb6.1]; exact HB0.out)
           clear hb6 hnc6 hz6
           go_upto_region 33 with fail
           refine wp_region_lit ?_
           refine wM (.slice A' n' c') ?_;simp only [zz];refine wS (.agg (fmA m)) (gx_loads rfl rfl (blk_range HBg11.out) Tryz.underlying105 rfl (by rw [size_form]; rfl)) ?_;simp only [zz];refine wM (strV f.2) ?_;simp only [zz]
           have hP := rput_ok (w := w11) (cap := c') HC.out (bs_still HB6.out (HT10.out.next HT11.out)) HZ6.out (by have := HN6.out; omega) (by rw [HSX.out]; have := HTF.out; exact this)
           rw [HSX.out] at hP
           refine wpList_op rfl fun K9 HK9 => ?_
           go_wp2_with fail
           refine (hP).mono ?_
           rintro e w12 ⟨A7, n7, c7, rfl, hox, htx⟩
           refine HK9.out _ _ ?_
           clear HK9
           try simp only [zz]
           clear hP
           have HON := zH (show Own w12 w8.heap.size 5 (.slice A7 n7 c7) (T ++ mapPut d fs ++ body d (fs.take (j + 1))) from by
            rw [HSN.out, body_snoc, ← List.append_assoc, show sayPut d f = m.put (f.2) from by unfold sayPut; rw [HM.out]; show m.put (say d f) = _; rw [HSX.out]]
            exact own_base hox (Nat.le_trans HTR.out.size (HT10.out.next HT11.out).size))
           have HTN := zH (((HTR.out.next HT10.out).next HT11.out).next htx)
           clear hox htx
           refine wM (.tuple #[.slice A7 n7 c7, .int .i64 0]) ?_;simp only [zz];refine wE (.slice A7 n7 c7) ?_;simp only [zz];refine wE (.int .i64 0) ?_;simp only [zz];refine wA (.slice A7 n7 c7) ?_;simp only [zz]
           go_upto_region 28 with fail
           refine wp_region_lit ?_
           refine wM (.int .i64 (j : Int)) ?_;simp only [zz];refine wS (.int .i64 ((j + 1 : Nat) : Int)) (ix_add rfl rfl rfl (by omega) (by omega)) ?_;simp only [zz];refine wA (.int .i64 ((j + 1 : Nat) : Int)) ?_;simp only [zz]
           go_wp2_with fail
           go_roundg (gk - 1)
           case measure => have := HJL.out; have := HLT.out; omega
           case rel => exact ⟨j + 1, _, _, _, by have := HJL.out; have := HLT.out; omega, by go_num, rfl, HON.out, HTN.out⟩
         ·refine wS (.bool false) (ix_eql rfl rfl rfl (decide_eq_false h3)) ?_;simp only [zz]
          have H3 := zH h3
          clear h3
          have HSX := zH (show say d f = f.2 from by rw [HSAY.out, if_neg (fun h => H3.out (by omega))])
          clear H3
          obtain ⟨A6, n6, c6, hf6, hb6, hnc6, hz6⟩ := HO.out.form
          injection hf6 with g1 g2 g3
          subst g1 g2 g3
          have HB6 := zH hb6
          have HZ6 := zH hz6
          have HN6 := zH (show n' ≤ 500 from by rw [← hb6.1]; exact HB0.out)
          clear hb6 hnc6 hz6
          go_upto_region 33 with fail
          refine wp_region_lit ?_
          refine wM (.slice A' n' c') ?_;simp only [zz];refine wS (.agg (fmA m)) (gx_loads rfl rfl (blk_range HBg11.out) Tryz.underlying105 rfl (by rw [size_form]; rfl)) ?_;simp only [zz];refine wM (strV f.2) ?_;simp only [zz]
          have hP := rput_ok (w := w11) (cap := c') HC.out (bs_still HB6.out (HT10.out.next HT11.out)) HZ6.out (by have := HN6.out; omega) (by rw [HSX.out]; have := HTF.out; exact this)
          rw [HSX.out] at hP
          refine wpList_op rfl fun K9 HK9 => ?_
          go_wp2_with fail
          refine (hP).mono ?_
          rintro e w12 ⟨A7, n7, c7, rfl, hox, htx⟩
          refine HK9.out _ _ ?_
          clear HK9
          try simp only [zz]
          clear hP
          have HON := zH (show Own w12 w8.heap.size 5 (.slice A7 n7 c7) (T ++ mapPut d fs ++ body d (fs.take (j + 1))) from by
           rw [HSN.out, body_snoc, ← List.append_assoc, show sayPut d f = m.put (f.2) from by unfold sayPut; rw [HM.out]; show m.put (say d f) = _; rw [HSX.out]]
           exact own_base hox (Nat.le_trans HTR.out.size (HT10.out.next HT11.out).size))
          have HTN := zH (((HTR.out.next HT10.out).next HT11.out).next htx)
          clear hox htx
          refine wM (.tuple #[.slice A7 n7 c7, .int .i64 0]) ?_;simp only [zz];refine wE (.slice A7 n7 c7) ?_;simp only [zz];refine wE (.int .i64 0) ?_;simp only [zz];refine wA (.slice A7 n7 c7) ?_;simp only [zz]
          go_upto_region 28 with fail
          refine wp_region_lit ?_
          refine wM (.int .i64 (j : Int)) ?_;simp only [zz];refine wS (.int .i64 ((j + 1 : Nat) : Int)) (ix_add rfl rfl rfl (by omega) (by omega)) ?_;simp only [zz];refine wA (.int .i64 ((j + 1 : Nat) : Int)) ?_;simp only [zz]
          go_wp2_with fail
          go_roundg (gk - 1)
          case measure => have := HJL.out; have := HLT.out; omega
          case rel => exact ⟨j + 1, _, _, _, by have := HJL.out; have := HLT.out; omega, by go_num, rfl, HON.out, HTN.out⟩
        ·refine wS (.bool false) (ix_lss rfl rfl rfl (decide_eq_false (by omega))) ?_;simp only [zz]
         have HOW := zH (show Own wr w8.heap.size 5 (.slice A' n' c') (wire d ty fs) from by
          have h1 := HO.out
          rw [List.take_of_length_le (by rw [HNL.out]; omega), ← HWI.out] at h1
          exact h1)
         clear hlt
         go_upto_region 34 with fail
         refine wp_region_lit ?_
         refine wM (.slice A' n' c') ?_;simp only [zz];refine wA (.slice A' n' c') ?_;simp only [zz];refine wA (.int .i64 0) ?_;simp only [zz]
         go_wp2_with fail
         go_ret2
         rw [show mencode (d : Int) ty fs = .ok (wire d ty fs) from HENC.out]
         exact ⟨_, _, _, rfl, own_base HOW.out ((((((HT0.out.next HT2.out).next HTL.out).next HTD.out).next HT7.out).next HT8.out)).size, ((((((HT0.out.next HT2.out).next HTL.out).next HTD.out).next HT7.out).next HT8.out).next HTR.out)⟩
     | false =>
       have hall : fs.take j = fs := List.take_of_length_le (by rw [HNL.out]; omega)
       have hlb := HLB.out
       have hb6 := HB6.out
       have ham := HAM.out
       rw [hall] at hlb hb6 ham
       have HENC := zH (HREF.out.1 ham)
       have HSAID := zH ((mencode_ok.1 (HREF.out.1 ham)).2.1.2.2.2)
       have HWL := zH (wire_len HD.out (show Wr d ty fs from by
        have h := (mencode_ok.1 (HREF.out.1 ham)).2.1
        rwa [Int.toNat_natCast] at h))
       have HB9 := zH hb6
       have HFA := zH hlb
       clear hall hlb hb6 ham hlt HLB HB6 HAM HJL
       have HBM9 := zH (HBgm.out.turn (HT2.out.next HTR.out) (fun e => e))
       go_upto_region 16 with fail
       refine wp_region_lit ?_
       refine wM (.bool false) ?_;simp only [zz]
       have HH2 := zH (show half2 fs = 0 from Classical.byContradiction fun h => by
        have h1 := (far_half HNO.out).2 h
        rw [← HFA.out] at h1
        cases h1)
       go_upto_region 18 with fail
       refine wp_region_lit ?_
       refine wM (.slice (some ⟨gb, 0, none⟩) 16 16) ?_;simp only [zz];refine wS (.slice (some ⟨gb, 0, none⟩) 8 16) (exec_slice rfl rfl rfl rfl rfl (slice_to_any (some ⟨gb, 0, none⟩) 16 16 8 (by decide) (by decide) _)) ?_;simp only [zz];refine wA (.slice (some ⟨gb, 0, none⟩) 8 16) ?_;simp only [zz]
       have HBX := zH HB9.out
       have HTL := zH HTR.out
       have HBM := zH HBM9.out
       have HXT := zH (bits_near HH2.out)
       have HXL := zH (B16_len fs)
       have HXM := zH (show (bitsL fs).length = 8 from by unfold bitsL; rw [if_pos HH2.out, be_len])
       generalize wr = w5 at *
       clear HTR HB9 HBM9 HFA HREF
       obtain ⟨T, hT⟩ : ∃ T, T = (typeFm d).put (ver d ++ dig3 ty.toNat) := ⟨_, rfl⟩
       have HTT := zH hT
       have HPL := zH (show ∀ k, (T ++ mapB d ((bitsL fs).take k)).length ≤ 500 from fun k => by
        have h1 := HWL.out
        unfold wire at h1
        rw [← HTT.out, mapPut_bits HD.out, ← List.take_append_drop k (bitsL fs), mapB_append] at h1
        simp only [List.length_append] at h1 ⊢
        omega)
       have HBL := zH (show ∀ k, (T ++ mapPut d fs ++ body d (fs.take k)).length ≤ 500 from fun k => by
        have h1 := HWL.out
        have h2 := body_take_le d fs k
        unfold wire at h1
        rw [← HTT.out] at h1
        simp only [List.length_append] at h1 ⊢
        omega)
       have HWI := zH (show wire d ty fs = T ++ mapPut d fs ++ body d fs from by
        unfold wire
        rw [← HTT.out, List.append_assoc])
       clear hT
       go_upto_region 19 with fail
       have hS0 : Blk w5.drew gm 29 #[.int .i64 ty, .slice A n c] := HBM.out.drew
       have HTD := zH (Turn.drew (Turn.refl nowhere w5))
       refine wp_region_alw (fun W => Blk W gm 29 #[.int .i64 ty, .slice A n c]) (by kernel_rfl) ?_
       generalize w5.drew = w6 at *
       refine aM 0 (.int .i64 (d : Int)) hS0 ?_;simp only [zz];refine aM 2 (.int .i64 (d : Int)) hS0 ?_;simp only [zz];refine aU 3 (.pointer (some ⟨gm, 0, none⟩)) rfl (fun W hW => xF 0 0) hS0 ?_;simp only [zz];refine aU 4 (.int .i64 ty) rfl (fun W hW => xL (hW.cell 0)) hS0 ?_;simp only [zz]
       refine alw_step (i := 1) (by kernel_rfl) rfl rfl ?_
       intro K1 HK1
       go_wp2_with fail
       refine (number_walk (w := w6) (dd := (d : Int)) (sz := 4)).mono ?_
       rintro e w7 ⟨rfl, ht7⟩
       have hS1 := hS0.turn ht7 (fun e => e)
       refine HK1.out _ _ ⟨hS1, ?_⟩
       have HT7 := zH ht7
       clear HK1 hS0 ht7
       try simp only [zz]
       have hH := head_ty (w := w7) HD.out HTY.out
       refine alw_step (i := 5) (by kernel_rfl) rfl rfl ?_
       intro K1 HK1
       go_wp2_with fail
       refine hH.mono ?_
       rintro e w8 ⟨rfl, ht8⟩
       have hS2 := hS1.turn ht8 (fun e => e)
       refine HK1.out _ _ ⟨hS2, ?_⟩
       have HT8 := zH ht8
       clear HK1 hS1 ht8 hH
       try simp only [zz]
       have hP := put_type (w := w8) HD.out HTY.out
       rw [← HTT.out] at hP
       refine alw_step (i := 6) (by kernel_rfl) rfl rfl ?_
       intro K1 HK1
       go_wp2_with fail
       refine hP.mono ?_
       rintro e w9 ⟨A9, n9, c9, rfl, ho9, ht9⟩
       have hS3 := hS2.turn ht9 (fun e => e)
       refine HK1.out _ _ ⟨hS3, ?_⟩
       have HT9 := zH ht9
       have HO9 := zH ho9
       clear HK1 hS2 ht9 ho9 hP
       try simp only [zz]
       refine aM 7 (.tuple #[.slice A9 n9 c9, .int .i64 0]) hS3 ?_;simp only [zz];refine aU 8 (.slice A9 n9 c9) rfl (fun W hW => ix_extract rfl rfl rfl) hS3 ?_;simp only [zz];refine aU 9 (.int .i64 0) rfl (fun W hW => ix_extract rfl rfl rfl) hS3 ?_;simp only [zz];refine aU 10 (.slice A9 n9 c9) rfl (fun W hW => gx_assign rfl rfl) hS3 ?_;simp only [zz];refine aU 11 (.int .i64 0) rfl (fun W hW => gx_assign rfl rfl) hS3 ?_;simp only [zz]
       refine alw_done rfl ?_
       clear hS3
       refine NoPanic.normal ?_
       have HGP := zH (show gb < w8.heap.size from by
        have h1 := HBX.out.lt
        have h2 := HTD.out.size
        have h3 := HT7.out.size
        have h4 := HT8.out.size
        omega)
       have HBX8 := zH (HBX.out.turn ((HTD.out.next HT7.out).next HT8.out) (fun e => e))
       go_upto_region 20 with fail
       refine wp_region_lit ?_
       refine wA (.int .i64 0) ?_;simp only [zz]
       go_wp2_with fail
       go_loopg [11, 13] 8 (fun gk bv jv wr => ∃ (k : Nat) (A' : Option Addr) (n' c' : Nat), k + gk = 8 ∧ jv = .int .i64 (k : Int) ∧ bv = .slice A' n' c' ∧ Own wr w8.heap.size 5 (.slice A' n' c') (T ++ mapB d ((bitsL fs).take k)) ∧ Turn nowhere w8 wr)
       case atStart => exact ⟨0, _, _, _, by omega, rfl, rfl, by rw [List.take_zero, show mapB d [] = [] from by unfold mapB; split <;> rfl, List.append_nil]; exact HO9.out, HT9.out⟩
       obtain ⟨k, A', n', c', hkl, rfl, rfl, ho, htr⟩ := hrel
       have HKL := zH hkl
       have HO := zH ho
       have HTR := zH htr
       clear hkl ho htr
       go_upto_region 21 with fail
       refine wp_region_lit ?_
       refine wM (.int .i64 (k : Int)) ?_;simp only [zz];refine wM (.slice (some ⟨gb, 0, none⟩) 8 16) ?_;simp only [zz];refine wS (.int .i64 8) (gx_len rfl rfl Tryz.underlying22) ?_;simp only [zz]
       by_cases hk : k < 8
       ·refine wS (.bool true) (ix_lss rfl rfl rfl (decide_eq_true (by omega))) ?_;simp only [zz]
        have HK := zH hk
        have y4 : (k : Int) < 8 := by omega
        obtain ⟨x, hx⟩ : ∃ x, x = (B16 fs).getD k 0 := ⟨_, rfl⟩
        have HX := zH hx
        have HBK := zH (HBX8.out.turn HTR.out (fun e => e))
        have HMB := zH (show (bitsL fs).take (k + 1) = (bitsL fs).take k ++ [x] from by
         have h1 : (bitsL fs)[k]? = some x := by
          rw [← HXT.out, List.getElem?_take, if_pos hk, hx, List.getD, List.getElem?_eq_getElem (by rw [HXL.out]; omega)]
          rfl
         rw [List.take_add_one, h1]
         rfl)
        have hP0 := HPL.out k
        clear hk hx
        go_upto_region 23 with fail
        refine wp_region_lit ?_
        refine wM (.int .i64 (d : Int)) ?_;simp only [zz]
        by_cases h1 : (d : Int) = 1
        ·refine wS (.bool true) (ix_eql rfl rfl rfl (decide_eq_true h1)) ?_;simp only [zz]
         have HD1 := zH (show d = 1 by omega)
         clear h1
         go_upto_region 24 with fail
         have hS0 : Blk wr.drew gb 5 (bcs (B16 fs)).toArray := HBK.out.drew
         have HOd := zH (HO.out.drew)
         have HTd := zH (HTR.out.drew)
         refine wp_region_alw (fun W => Blk W gb 5 (bcs (B16 fs)).toArray) (by kernel_rfl) ?_
         generalize wr.drew = wa at *
         refine aM 0 (.slice A' n' c') hS0 ?_;simp only [zz];refine aM 1 (.slice (some ⟨gb, 0, none⟩) 8 16) hS0 ?_;simp only [zz];refine aM 2 (.int .i64 (k : Int)) hS0 ?_;simp only [zz];refine aU 3 (.pointer (some ⟨gb, k, none⟩)) rfl (fun W hW => gx_iaddr (i := k) (sz := 1) rfl rfl rfl Tryz.underlying22 size_byte1 (by have := HK.out; omega) (by omega)) hS0 ?_;simp only [zz];refine aU 4 (.int .u8 (x.toNat : Int)) rfl (fun W hW => exec_load1 rfl rfl (by kernel_rfl) (by rw [HX.out]; exact blk_byte hW (by rw [HXL.out]; have := HK.out; omega))) hS0 ?_;simp only [zz];refine aU 5 (.int .u8 ((x.toNat / 16 : Nat) : Int)) rfl (fun W hW => b8_quo rfl rfl (UInt8.toNat_lt _)) hS0 ?_;simp only [zz];refine aU 6 (.int .u8 ((hexU.getD (x.toNat / 16) 0).toNat : Int)) rfl (fun W hW => exec_sidx (l := hexU) (i := x.toNat / 16) rfl rfl rfl (by have := UInt8.toNat_lt x; show x.toNat / 16 < 16; omega)) hS0 ?_;simp only [zz];refine aM 7 (.slice (some ⟨gb, 0, none⟩) 8 16) hS0 ?_;simp only [zz];refine aM 8 (.int .i64 (k : Int)) hS0 ?_;simp only [zz];refine aU 9 (.pointer (some ⟨gb, k, none⟩)) rfl (fun W hW => gx_iaddr (i := k) (sz := 1) rfl rfl rfl Tryz.underlying22 size_byte1 (by have := HK.out; omega) (by omega)) hS0 ?_;simp only [zz];refine aU 10 (.int .u8 (x.toNat : Int)) rfl (fun W hW => exec_load1 rfl rfl (by kernel_rfl) (by rw [HX.out]; exact blk_byte hW (by rw [HXL.out]; have := HK.out; omega))) hS0 ?_;simp only [zz];refine aU 11 (.int .u8 ((x.toNat % 16 : Nat) : Int)) rfl (fun W hW => b8_rem rfl rfl) hS0 ?_
         simp only [zz];refine aU 12 (.int .u8 ((hexU.getD (x.toNat % 16) 0).toNat : Int)) rfl (fun W hW => exec_sidx (l := hexU) (i := x.toNat % 16) rfl rfl rfl (by show x.toNat % 16 < 16; omega)) hS0 ?_;simp only [zz]
         have hu2 := (Turn.refl nowhere wa).alloc (.cells (bcs [hexU.getD (x.toNat / 16) 0, hexU.getD (x.toNat % 16) 0]).toArray 5)
         have hs2 := bs_blk (Blk.new wa 5 (bcs [hexU.getD (x.toNat / 16) 0, hexU.getD (x.toNat % 16) 0]).toArray) (n := 2) rfl (by unfold maxLen; omega)
         have ho2 := own_still HOd.out hu2
         have hS1 := hS0.turn hu2 (fun e => e)
         refine alw_step (i := 13) (by kernel_rfl) rfl rfl ?_
         intro K1 HK1
         refine wp_run (exec_two rfl rfl rfl) ?_
         refine HK1.out _ _ ⟨hS1, ?_⟩
         clear HK1 hS0
         obtain ⟨g2, hg2⟩ : ∃ g, g = wa.heap.size := ⟨_, rfl⟩
         rw [← hg2] at hs2 ⊢
         clear hg2
         generalize wa.alloc (.cells (bcs [hexU.getD (x.toNat / 16) 0, hexU.getD (x.toNat % 16) 0]).toArray 5) = wb at *
         try simp only [zz]
         refine alw_step (i := 14) (by kernel_rfl) rfl rfl ?_
         intro K1 HK1
         refine wp_append_bytes wb _ _ _ rfl w8.heap.size 5 byteInfo Tryz.underlying22 _ _ rfl ho2 _ 2 2 [hexU.getD (x.toNat / 16) 0, hexU.getD (x.toNat % 16) 0] rfl hs2 (fun h => by cases h) (by omega) (Nat.le_trans HTd.out.size hu2.size) ?_
         intro v5 w10 ho5 hb5
         obtain ⟨A5, n5, c5, rfl, _⟩ := ho5.form
         have hS2 : Blk w10 gb 5 (bcs (B16 fs)).toArray := (hb5.block gb HGP.out).trans hS1
         refine HK1.out _ _ ⟨hS2, ?_⟩
         clear HK1 hS1
         try simp only [zz]
         have HON := zH (show Own w10 w8.heap.size 5 (.slice A5 n5 c5) (T ++ mapB d ((bitsL fs).take (k + 1))) from by
          rw [HMB.out, mapB_append, ← List.append_assoc, show mapB d [x] = [hexU.getD (x.toNat / 16) 0, hexU.getD (x.toNat % 16) 0] from by unfold mapB; rw [if_pos HD1.out]; rfl]
          exact ho5)
         have HTN := zH (Turn.of_below (((HTd.out.next hu2).below (Nat.le_refl _) (fun _ _ e=>e)).trans hb5) (Nat.le_refl _))
         clear ho5 hb5 ho2 hs2 hu2
         refine aU 15 (.slice A5 n5 c5) rfl (fun W hW => gx_assign rfl rfl) hS2 ?_;simp only [zz]
         refine alw_done rfl ?_
         clear hS2
         refine NoPanic.normal ?_
         go_upto_region 22 with fail
         refine wp_region_lit ?_
         refine wM (.int .i64 (k : Int)) ?_;simp only [zz];refine wS (.int .i64 ((k + 1 : Nat) : Int)) (ix_add rfl rfl rfl (by omega) (by omega)) ?_;simp only [zz];refine wA (.int .i64 ((k + 1 : Nat) : Int)) ?_;simp only [zz]
         go_wp2_with fail
         go_roundg (gk - 1)
         case measure => have := HKL.out; have := HK.out; omega
         case rel => exact ⟨k + 1, _, _, _, by have := HKL.out; have := HK.out; omega, by go_num, rfl, HON.out, HTN.out⟩
        ·refine wS (.bool false) (ix_eql rfl rfl rfl (decide_eq_false h1)) ?_;simp only [zz]
         have HD1 := zH (show ¬ d = 1 by omega)
         clear h1
         go_upto_region 25 with fail
         refine wp_region_lit ?_
         refine wM (.slice A' n' c') ?_;simp only [zz];refine wM (.slice (some ⟨gb, 0, none⟩) 8 16) ?_;simp only [zz];refine wM (.int .i64 (k : Int)) ?_;simp only [zz];refine wS (.pointer (some ⟨gb, k, none⟩)) (gx_iaddr (i := k) (sz := 1) rfl rfl rfl Tryz.underlying22 size_byte1 (by have := HK.out; omega) (by omega)) ?_;simp only [zz];refine wS (.int .u8 (x.toNat : Int)) (exec_load1 rfl rfl (by kernel_rfl) (by rw [HX.out]; exact blk_byte HBK.out (by rw [HXL.out]; have := HK.out; omega))) ?_;simp only [zz]
         refine wR (v := .slice (some ⟨wr.heap.size, 0, none⟩) 1 1) (w' := wr.alloc (.cells (bcs [x]).toArray 5)) rfl (exec_one (z := x) rfl rfl) ?_
         simp only [zz]
         have hu2 := (Turn.refl nowhere wr).alloc (.cells (bcs [x]).toArray 5)
         have hs2 := bs_blk (Blk.new wr 5 (bcs [x]).toArray) (n := 1) rfl (by unfold maxLen; omega)
         have ho2 := own_still HO.out hu2
         obtain ⟨g2, hg2⟩ : ∃ g, g = wr.heap.size := ⟨_, rfl⟩
         rw [← hg2] at hs2 ⊢
         clear hg2
         generalize wr.alloc (.cells (bcs [x]).toArray 5) = wb at *
         refine wpList_append_bytes wb rfl _ _ _ rfl w8.heap.size 5 byteInfo Tryz.underlying22 _ _ rfl ho2 _ 1 1 [x] rfl hs2 (fun h => by cases h) (by omega) (Nat.le_trans HTR.out.size hu2.size) ?_
         intro v5 w10 ho5 hb5
         obtain ⟨A5, n5, c5, rfl, _⟩ := ho5.form
         simp only [zz]
         have HON := zH (show Own w10 w8.heap.size 5 (.slice A5 n5 c5) (T ++ mapB d ((bitsL fs).take (k + 1))) from by
          rw [HMB.out, mapB_append, ← List.append_assoc, show mapB d [x] = [x] from by unfold mapB; rw [if_neg HD1.out]]
          exact ho5)
         have HTN := zH (Turn.of_below (((HTR.out.next hu2).below (Nat.le_refl _) (fun _ _ e=>e)).trans hb5) (Nat.le_refl _))
         clear ho5 hb5 ho2 hs2 hu2
         refine wA (.slice A5 n5 c5) ?_;simp only [zz]
         go_upto_region 22 with fail
         refine wp_region_lit ?_
         refine wM (.int .i64 (k : Int)) ?_;simp only [zz];refine wS (.int .i64 ((k + 1 : Nat) : Int)) (ix_add rfl rfl rfl (by omega) (by omega)) ?_;simp only [zz];refine wA (.int .i64 ((k + 1 : Nat) : Int)) ?_;simp only [zz]
         go_wp2_with fail
         go_roundg (gk - 1)
         case measure => have := HKL.out; have := HK.out; omega
         case rel => exact ⟨k + 1, _, _, _, by have := HKL.out; have := HK.out; omega, by go_num, rfl, HON.out, HTN.out⟩
       ·refine wS (.bool false) (ix_lss rfl rfl rfl (decide_eq_false (by omega))) ?_;simp only [zz]
        have HOW := zH (show Own wr w8.heap.size 5 (.slice A' n' c') (T ++ mapPut d fs) from by
         have h1 := HO.out
         rw [List.take_of_length_le (by rw [HXM.out]; omega), ← mapPut_bits HD.out] at h1
         exact h1)
        have HTW := zH HTR.out
        clear hk HO HTR HKL
        go_upto_region 26 with fail
        refine wp_region_lit ?_
        refine wA (.int .i64 0) ?_;simp only [zz]
        go_wp2_with fail
        go_loopg [11, 14] n (fun gk bv jv wq => ∃ (j : Nat) (A' : Option Addr) (n' c' : Nat), j + gk = n ∧ jv = .int .i64 (j : Int) ∧ bv = .slice A' n' c' ∧ Own wq w8.heap.size 5 (.slice A' n' c') (T ++ mapPut d fs ++ body d (fs.take j)) ∧ Turn nowhere w8 wq)
        case atStart => exact ⟨0, _, _, _, by omega, rfl, rfl, by rw [List.take_zero, show body d [] = [] from rfl, List.append_nil]; exact HOW.out, HTW.out⟩
        clear HOW HTW
        obtain ⟨j, A', n', c', hjl, rfl, rfl, ho, htr⟩ := hrel
        have HJL := zH hjl
        have HO := zH ho
        have HTR := zH htr
        clear hjl ho htr
        have HB2 := zH ((HBgm.out.turn (((((HT2.out.next HTL.out).next HTD.out).next HT7.out).next HT8.out).next HTR.out) (fun e => e)))
        go_upto_region 27 with fail
        refine wp_region_lit ?_
        refine wM (.int .i64 (j : Int)) ?_;simp only [zz];refine wS (.pointer (some ⟨gm, 1, none⟩)) (xF 0 1) ?_;simp only [zz];refine wS (.slice A n c) (xL (HB2.out.cell 1)) ?_;simp only [zz];refine wS (.int .i64 (n : Int)) (gx_len rfl rfl Tryz.underlying27) ?_;simp only [zz]
        by_cases hlt : j < n
        ·have HLT := zH hlt
         have y1 : (j : Int) < (n : Int) := by omega
         obtain ⟨bF, oF, rfl, hr⟩ := (HF.out.still ((((((HT0.out.next HT2.out).next HTL.out).next HTD.out).next HT7.out).next HT8.out).next HTR.out)).2.2 (by omega)
         obtain ⟨f, hf⟩ : ∃ f, fs[j]? = some f := ⟨_, List.getElem?_eq_getElem (show j < fs.length from by rw [HNL.out]; exact hlt)⟩
         have hmem := List.mem_of_getElem? hf
         have HRR := zH (hr j f hf)
         have HSN := zH (take_snoc hf)
         have HTF := zH (HTX.out f hmem)
         have hsd := HSAID.out f hmem
         rw [Int.toNat_natCast] at hsd
         obtain ⟨m1, hm1, hc1⟩ := HGD.out.2 f hmem
         have HSAY := zH (say_amt ((said_amt HD.out hm1 hc1).1 hsd))
         obtain ⟨m, hm, hc⟩ := hsd
         have HM := zH hm
         have HC := zH hc
         have HL12 := zH (fun h4 => amt_len HGD.out hmem h4)
         have HB0 := zH (HBL.out j)
         clear hr hf hlt hmem hm1 hc1 hm hc
         refine wS (.bool true) (ix_lss rfl rfl rfl (decide_eq_true y1)) ?_;simp only [zz]
         go_upto_region 29 with fail
         refine wp_region_lit ?_
         refine wM (.int .i64 (d : Int)) ?_;simp only [zz];refine wS (.pointer (some ⟨gm, 1, none⟩)) (xF 0 1) ?_;simp only [zz];refine wS (.slice (some ⟨bF, oF, none⟩) n c) (xL (HB2.out.cell 1)) ?_;simp only [zz];refine wM (.int .i64 (j : Int)) ?_;simp only [zz];refine wS (.pointer (some ⟨bF, oF + j * 2, none⟩)) (gx_iaddr (i := j) (sz := 2) rfl rfl rfl Tryz.underlying27 size_field HLT.out (by omega)) ?_;simp only [zz];refine wS (.pointer (some ⟨bF, oF + j * 2, none⟩)) (xF (oF + j * 2) 0) ?_;simp only [zz];refine wS (.int .i64 f.1) (xL (HRR.out 0 _ rfl)) ?_;simp only [zz]
         have hFm := rForm_walk (w := wr) (dd := (d : Int)) (no := f.1)
         rw [show formE (d : Int) f.1 = (m, 0) from by
          unfold formE
          rw [if_pos HDI.out, Int.toNat_natCast, HM.out]] at hFm
         refine wpList_op rfl fun K9 HK9 => ?_
         go_wp2_with fail
         refine (hFm).mono ?_
         rintro e w10 ⟨rfl, htx⟩
         refine HK9.out _ _ ?_
         clear HK9
         try simp only [zz]
         clear hFm
         have HT10 := zH htx
         clear htx
         refine wM (.tuple #[.agg (fmA m), .int .i64 0]) ?_;simp only [zz];refine wE (.agg (fmA m)) ?_;simp only [zz];refine wE (.int .i64 0) ?_;simp only [zz]
         refine wpList_new 105 (.tmp 15) (.tmp 148) (fmA m) rfl rfl (zero_fm _) rfl rfl rfl rfl rfl rfl (by rw [size_form]; rfl) (fmA_one _) ?_
         intro w11 g11 _ hbx hux
         simp only [zz]
         have HBg11 := zH hbx
         have HT11 := zH hux
         clear hbx hux
         have HB3 := zH (HB2.out.turn (HT10.out.next HT11.out) (fun e => e))
         have HR3 := zH (show w11.rangeAt bF (oF + j * 2) (fldA f).toList from fun i v hv => ((HT10.out.next HT11.out).cell (World.block_lt_of_cell? _ _ (HRR.out i v hv)) (fun e => e)).trans (HRR.out i v hv))
         refine wA (.int .i64 0) ?_;simp only [zz]
         go_upto_region 30 with fail
         refine wp_region_lit ?_
         refine wS (.pointer (some ⟨gm, 1, none⟩)) (xF 0 1) ?_;simp only [zz];refine wS (.slice (some ⟨bF, oF, none⟩) n c) (xL (HB3.out.cell 1)) ?_;simp only [zz];refine wM (.int .i64 (j : Int)) ?_;simp only [zz];refine wS (.pointer (some ⟨bF, oF + j * 2, none⟩)) (gx_iaddr (i := j) (sz := 2) rfl rfl rfl Tryz.underlying27 size_field HLT.out (by omega)) ?_;simp only [zz];refine wS (.pointer (some ⟨bF, oF + j * 2 + 1, none⟩)) (xF (oF + j * 2) 1) ?_;simp only [zz];refine wS (strV f.2) (xL (HR3.out 1 _ rfl)) ?_;simp only [zz];refine wA (strV f.2) ?_;simp only [zz]
         go_upto_region 31 with fail
         refine wp_region_lit ?_
         refine wM (.int .i64 (d : Int)) ?_;simp only [zz]
         by_cases h3 : (d : Int) = 3
         ·refine wS (.bool true) (ix_eql rfl rfl rfl (decide_eq_true h3)) ?_;simp only [zz];refine wM (.bool true) ?_;simp only [zz];refine wS (.pointer (some ⟨gm, 1, none⟩)) (xF 0 1) ?_;simp only [zz];refine wS (.slice (some ⟨bF, oF, none⟩) n c) (xL (HB3.out.cell 1)) ?_;simp only [zz];refine wM (.int .i64 (j : Int)) ?_;simp only [zz];refine wS (.pointer (some ⟨bF, oF + j * 2, none⟩)) (gx_iaddr (i := j) (sz := 2) rfl rfl rfl Tryz.underlying27 size_field HLT.out (by omega)) ?_;simp only [zz];refine wS (.pointer (some ⟨bF, oF + j * 2, none⟩)) (xF (oF + j * 2) 0) ?_;simp only [zz];refine wS (.int .i64 f.1) (xL (HR3.out 0 _ rfl)) ?_;simp only [zz]
          by_cases h4 : f.1 = 4
          ·refine wS (.bool true) (ix_eql rfl rfl rfl (decide_eq_true h4)) ?_;simp only [zz];refine wS (.bool true) (ix_pickT rfl rfl rfl) ?_;simp only [zz]
           have HL2 := zH (HL12.out h4)
           have H3 := zH h3
           have H4 := zH h4
           clear h3 h4
           go_upto_region 32 with fail
           refine wp_region_lit ?_
           refine wM (strV f.2) ?_;simp only [zz];refine wS (strV (f.2.drop 2)) (exec_sfrom (n := 2) rfl rfl rfl (by rw [HL2.out]; decide)) ?_;simp only [zz];refine wA (strV (f.2.drop 2)) ?_;simp only [zz]
           have HSX := zH (show say d f = f.2.drop 2 from by rw [HSAY.out, if_pos ⟨by have := H3.out; omega, H4.out⟩])
           clear H3 H4
           obtain ⟨A6, n6, c6, hf6, hb6, hnc6, hz6⟩ := HO.out.form
           injection hf6 with g1 g2 g3
           subst g1 g2 g3
           have HB6 := zH hb6
           have HZ6 := zH hz6
           have HN6 := zH (show n' ≤ 500 from by rw [← hb6.1]; exact HB0.out)
           clear hb6 hnc6 hz6
           go_upto_region 33 with fail
           refine wp_region_lit ?_
           refine wM (.slice A' n' c') ?_;simp only [zz];refine wS (.agg (fmA m)) (gx_loads rfl rfl (blk_range HBg11.out) Tryz.underlying105 rfl (by rw [size_form]; rfl)) ?_;simp only [zz];refine wM (strV (f.2.drop 2)) ?_;simp only [zz]
           have hP := rput_ok (w := w11) (cap := c') HC.out (bs_still HB6.out (HT10.out.next HT11.out)) HZ6.out (by have := HN6.out; omega) (by rw [HSX.out]; have := HTF.out; rw [List.length_drop]; omega)
           rw [HSX.out] at hP
           refine wpList_op rfl fun K9 HK9 => ?_
           go_wp2_with fail
           refine (hP).mono ?_
           rintro e w12 ⟨A7, n7, c7, rfl, hox, htx⟩
           refine HK9.out _ _ ?_
           clear HK9
           try simp only [zz]
           clear hP
           have HON := zH (show Own w12 w8.heap.size 5 (.slice A7 n7 c7) (T ++ mapPut d fs ++ body d (fs.take (j + 1))) from by
            rw [HSN.out, body_snoc, ← List.append_assoc, show sayPut d f = m.put (f.2.drop 2) from by unfold sayPut; rw [HM.out]; show m.put (say d f) = _; rw [HSX.out]]
            exact own_base hox (Nat.le_trans HTR.out.size (HT10.out.next HT11.out).size))
           have HTN := zH (((HTR.out.next HT10.out).next HT11.out).next htx)
           clear hox htx
           refine wM (.tuple #[.slice A7 n7 c7, .int .i64 0]) ?_;simp only [zz];refine wE (.slice A7 n7 c7) ?_;simp only [zz];refine wE (.int .i64 0) ?_;simp only [zz];refine wA (.slice A7 n7 c7) ?_;simp only [zz]
           go_upto_region 28 with fail
           refine wp_region_lit ?_
           refine wM (.int .i64 (j : Int)) ?_;simp only [zz];refine wS (.int .i64 ((j + 1 : Nat) : Int)) (ix_add rfl rfl rfl (by omega) (by omega)) ?_;simp only [zz];refine wA (.int .i64 ((j + 1 : Nat) : Int)) ?_;simp only [zz]
           go_wp2_with fail
           go_roundg (gk - 1)
           case measure => have := HJL.out; have := HLT.out; omega
           case rel => exact ⟨j + 1, _, _, _, by have := HJL.out; have := HLT.out; omega, by go_num, rfl, HON.out, HTN.out⟩
          ·refine wS (.bool false) (ix_eql rfl rfl rfl (decide_eq_false h4)) ?_;simp only [zz];refine wS (.bool false) (ix_pickT rfl rfl rfl) ?_;simp only [zz]
           have HSX := zH (show say d f = f.2 from by rw [HSAY.out, if_neg (fun h => h4 h.2)])
           clear h3 h4
           obtain ⟨A6, n6, c6, hf6, hb6, hnc6, hz6⟩ := HO.out.form
           injection hf6 with g1 g2 g3
           subst g1 g2 g3
           have HB6 := zH hb6
           have HZ6 := zH hz6
           have HN6 := zH (show n' ≤ 500 from by rw [← hb6.1]; exact HB0.out)
           clear hb6 hnc6 hz6
           go_upto_region 33 with fail
           refine wp_region_lit ?_
           refine wM (.slice A' n' c') ?_;simp only [zz];refine wS (.agg (fmA m)) (gx_loads rfl rfl (blk_range HBg11.out) Tryz.underlying105 rfl (by rw [size_form]; rfl)) ?_;simp only [zz];refine wM (strV f.2) ?_;simp only [zz]
           have hP := rput_ok (w := w11) (cap := c') HC.out (bs_still HB6.out (HT10.out.next HT11.out)) HZ6.out (by have := HN6.out; omega) (by rw [HSX.out]; have := HTF.out; exact this)
           rw [HSX.out] at hP
           refine wpList_op rfl fun K9 HK9 => ?_
           go_wp2_with fail
           refine (hP).mono ?_
           rintro e w12 ⟨A7, n7, c7, rfl, hox, htx⟩
           refine HK9.out _ _ ?_
           clear HK9
           try simp only [zz]
           clear hP
           have HON := zH (show Own w12 w8.heap.size 5 (.slice A7 n7 c7) (T ++ mapPut d fs ++ body d (fs.take (j + 1))) from by
            rw [HSN.out, body_snoc, ← List.append_assoc, show sayPut d f = m.put (f.2) from by unfold sayPut; rw [HM.out]; show m.put (say d f) = _; rw [HSX.out]]
            exact own_base hox (Nat.le_trans HTR.out.size (HT10.out.next HT11.out).size))
           have HTN := zH (((HTR.out.next HT10.out).next HT11.out).next htx)
           clear hox htx
           refine wM (.tuple #[.slice A7 n7 c7, .int .i64 0]) ?_;simp only [zz];refine wE (.slice A7 n7 c7) ?_;simp only [zz];refine wE (.int .i64 0) ?_;simp only [zz];refine wA (.slice A7 n7 c7) ?_;simp only [zz]
           go_upto_region 28 with fail
           refine wp_region_lit ?_
           refine wM (.int .i64 (j : Int)) ?_;simp only [zz];refine wS (.int .i64 ((j + 1 : Nat) : Int)) (ix_add rfl rfl rfl (by omega) (by omega)) ?_;simp only [zz];refine wA (.int .i64 ((j + 1 : Nat) : Int)) ?_;simp only [zz]
           go_wp2_with fail
           go_roundg (gk - 1)
           case measure => have := HJL.out; have := HLT.out; omega
           case rel => exact ⟨j + 1, _, _, _, by have := HJL.out; have := HLT.out; omega, by go_num, rfl, HON.out, HTN.out⟩
         ·refine wS (.bool false) (ix_eql rfl rfl rfl (decide_eq_false h3)) ?_;simp only [zz]
          have H3 := zH h3
          clear h3
          have HSX := zH (show say d f = f.2 from by rw [HSAY.out, if_neg (fun h => H3.out (by omega))])
          clear H3
          obtain ⟨A6, n6, c6, hf6, hb6, hnc6, hz6⟩ := HO.out.form
          injection hf6 with g1 g2 g3
          subst g1 g2 g3
          have HB6 := zH hb6
          have HZ6 := zH hz6
          have HN6 := zH (show n' ≤ 500 from by rw [← hb6.1]; exact HB0.out)
          clear hb6 hnc6 hz6
          go_upto_region 33 with fail
          refine wp_region_lit ?_
          refine wM (.slice A' n' c') ?_;simp only [zz];refine wS (.agg (fmA m)) (gx_loads rfl rfl (blk_range HBg11.out) Tryz.underlying105 rfl (by rw [size_form]; rfl)) ?_;simp only [zz];refine wM (strV f.2) ?_;simp only [zz]
          have hP := rput_ok (w := w11) (cap := c') HC.out (bs_still HB6.out (HT10.out.next HT11.out)) HZ6.out (by have := HN6.out; omega) (by rw [HSX.out]; have := HTF.out; exact this)
          rw [HSX.out] at hP
          refine wpList_op rfl fun K9 HK9 => ?_
          go_wp2_with fail
          refine (hP).mono ?_
          rintro e w12 ⟨A7, n7, c7, rfl, hox, htx⟩
          refine HK9.out _ _ ?_
          clear HK9
          try simp only [zz]
          clear hP
          have HON := zH (show Own w12 w8.heap.size 5 (.slice A7 n7 c7) (T ++ mapPut d fs ++ body d (fs.take (j + 1))) from by
           rw [HSN.out, body_snoc, ← List.append_assoc, show sayPut d f = m.put (f.2) from by unfold sayPut; rw [HM.out]; show m.put (say d f) = _; rw [HSX.out]]
           exact own_base hox (Nat.le_trans HTR.out.size (HT10.out.next HT11.out).size))
          have HTN := zH (((HTR.out.next HT10.out).next HT11.out).next htx)
          clear hox htx
          refine wM (.tuple #[.slice A7 n7 c7, .int .i64 0]) ?_;simp only [zz];refine wE (.slice A7 n7 c7) ?_;simp only [zz];refine wE (.int .i64 0) ?_;simp only [zz];refine wA (.slice A7 n7 c7) ?_;simp only [zz]
          go_upto_region 28 with fail
          refine wp_region_lit ?_
          refine wM (.int .i64 (j : Int)) ?_;simp only [zz];refine wS (.int .i64 ((j + 1 : Nat) : Int)) (ix_add rfl rfl rfl (by omega) (by omega)) ?_;simp only [zz];refine wA (.int .i64 ((j + 1 : Nat) : Int)) ?_;simp only [zz]
          go_wp2_with fail
          go_roundg (gk - 1)
          case measure => have := HJL.out; have := HLT.out; omega
          case rel => exact ⟨j + 1, _, _, _, by have := HJL.out; have := HLT.out; omega, by go_num, rfl, HON.out, HTN.out⟩
        ·refine wS (.bool false) (ix_lss rfl rfl rfl (decide_eq_false (by omega))) ?_;simp only [zz]
         have HOW := zH (show Own wr w8.heap.size 5 (.slice A' n' c') (wire d ty fs) from by
          have h1 := HO.out
          rw [List.take_of_length_le (by rw [HNL.out]; omega), ← HWI.out] at h1
          exact h1)
         clear hlt
         go_upto_region 34 with fail
         refine wp_region_lit ?_
         refine wM (.slice A' n' c') ?_;simp only [zz];refine wA (.slice A' n' c') ?_;simp only [zz];refine wA (.int .i64 0) ?_;simp only [zz]
         go_wp2_with fail
         go_ret2
         rw [show mencode (d : Int) ty fs = .ok (wire d ty fs) from HENC.out]
         exact ⟨_, _, _, rfl, own_base HOW.out ((((((HT0.out.next HT2.out).next HTL.out).next HTD.out).next HT7.out).next HT8.out)).size, ((((((HT0.out.next HT2.out).next HTL.out).next HTD.out).next HT7.out).next HT8.out).next HTR.out)⟩
   ·have HX9 := zH (show mencode (d : Int) ty fs = .error (mcheck ty fs) from by unfold mencode; rw [if_pos HDI.out, if_neg hck])
    refine wS (.bool true) (ix_neq rfl rfl rfl (decide_eq_true hck)) ?_;simp only [zz]
    clear hck
    go_wp2_with fail
    go_ret2
    exact enc_err HX9.out (HT0.out.next HT2.out)
end Go.Proofs.YtkagijifkpoplaaGreatDoor
