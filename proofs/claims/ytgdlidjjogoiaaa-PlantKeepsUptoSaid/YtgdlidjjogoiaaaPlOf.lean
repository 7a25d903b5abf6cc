/-
  groatlaw03's PlantOff, walked
-/
import Derived.Test.YtgdlidjjogoiaaaPlOa
import Derived.WalkLawsBesides
namespace Go.Proofs.Ytgdlidjjogoiaaa
open Go.RowKit Go.Maps
set_option linter.unusedVariables false
theorem sizes8 : sizesOk [8] := ⟨by decide, by decide, by decide⟩
def off0 : AP := AP.new [8]
theorem ofn {w0 w : World} {t : TypeId} (g : Nat) (hb : Blk w g t (intsC [8])) (h0 : Turn nowhere w0 w) : Calls Try.prog 8 #[.slice (some ⟨g, 0, none⟩) 1 1] w fun e w' => ∃ p, e = .returned (.tuple #[.pointer (some ⟨p, 0, none⟩), .int .i64 0]) ∧ St w0 (fun k => k < w0.heap.size) w' p off0 0 ∧ Turn nowhere w w' :=
  st_new hb rfl sizes8 h0
theorem off_fuse {w0 w : World} {L : Nat → Prop} {p : Nat} (h : St w0 L w p off0 0) (f : Nat) (hf : f < 12) : Calls Try.prog 19 #[.pointer (some ⟨p, 0, none⟩), .int .i64 (f : Int)] w fun e w' => e = .returned (.tuple #[]) ∧ (∃ s, OfI f 0 s ∧ St w0 L w' p s 0) ∧ Turn (kept L) w w' :=
  (st_fuse h (f : Int) (by omega)).mono fun e w' ⟨he, hs, ht⟩ => ⟨he, ⟨_, OfI.start f, hs⟩, ht⟩
theorem off_fuse0 {w0 w : World} {L : Nat → Prop} {p K f k : Nat} {s : AP} (h : St w0 L w p s K) (hI : OfI f k s) : Calls Try.prog 19 #[.pointer (some ⟨p, 0, none⟩), .int .i64 0] w fun e w' => e = .returned (.tuple #[]) ∧ (∃ s', OfX (min f k) s'.burn ∧ s'.ds.length = 1 ∧ (s'.on = true → s'.fuse = 0) ∧ (s'.on = false → s'.fuse = -1) ∧ St w0 L w' p s' K) ∧ Turn (kept L) w w' :=
  (st_fuse h 0 (by omega)).mono fun e w' ⟨he, hs, ht⟩ => ⟨he, ⟨{ s with fuse := if s.on = true then 0 else s.fuse }, hI.end_, hI.len, fun (hon : s.on = true) => (if_pos hon), fun (hoff : s.on = false) => by
    show (if s.on = true then (0 : Int) else s.fuse) = -1
    have h1 := hI.on
    rw [hoff] at h1
    have h2 : ¬ k ≤ f := of_decide_eq_false h1.symm
    rw [if_neg (by rw [hoff]; decide), hI.fuse, if_neg h2], hs⟩, ht⟩
theorem conv_u8 {a : Act} {o : Oper} {W : World} {x : Operand} {c : UInt8} (ho : o.op = .convert 5 3 x) (hx : a.eval x = .int .u8 (c.toNat : Int)) : (execOp a.eval o).run Try.prog W = .ok (.value (.int .i64 (c.toNat : Int))) W := by
  have hc := c.toNat_lt
  have hw : IntKind.i64.wrap (c.toNat : Int) = (c.toNat : Int) := by
    rw [IntKind.wrap_i64]
    omega
  unfold execOp
  simp only [ho, hx]
  go_simp
theorem off_neg {f0 : Int} (h0 : f0 < 0) : ∃ f : Nat, f < 12 ∧ -(f0 + 1).tmod 12 = (f : Int) := by
  have h2 : 0 ≤ Int.tmod (-(f0 + 1)) 12 := Int.tmod_nonneg _ (by omega)
  have h3 : Int.tmod (-(f0 + 1)) 12 < 12 := Int.tmod_lt_of_pos _ (by omega)
  refine ⟨(Int.tmod (-(f0 + 1)) 12).toNat, by omega, ?_⟩
  rw [Int.toNat_of_nonneg h2, Int.neg_tmod]
theorem off_pos {f0 : Int} (h0 : 0 ≤ f0) : ∃ f : Nat, f < 12 ∧ f0 % 12 = (f : Int) := ⟨(f0 % 12).toNat, by omega, by omega⟩
attribute [local irreducible] off0 fullS zeroSec
def OfS (b o : Nat) (c : UInt8) (W : World) : Prop := W.cell? ⟨b, o, none⟩ = some (.int .u8 (c.toNat : Int))
def OcS (R1 R2 : Nat) (X : Sec) (W : World) : Prop := Blk W R1 66 (bcs X.1).toArray ∧ Blk W R2 66 (bcs X.1).toArray
theorem exec_sneqp {a : Act} {o : Oper} {W : World} {x y : Operand} {l m : List UInt8} {t u : TypeId} (ho : o.op = .binOp .neq t x y u) (hx : a.eval x = strV l) (hy : a.eval y = strV m) : (execOp a.eval o).run Try.prog W = .ok (.value (.bool (!(l == m)))) W := by
  unfold execOp
  simp [ho, hx, hy, strV, eqGuard, binOp_string_neq]
set_option maxHeartbeats 4000000 in
set_option maxRecDepth 40000 in
theorem plantOff_walk (a0 : Option Addr) (len0 cap0 : Nat) (z0 : List UInt8) (f0 : Int) (W : World) (hz0 : Bs W a0 len0 z0) (hf0 : -9223372036854775808 ≤ f0 ∧ f0 ≤ 9223372036854775807) :
    Calls Try.prog 5 #[.slice a0 len0 cap0, .int .i64 f0] W fun e w' => e = .returned (.bool true) ∧ Below W.heap.size W w' := by
  have HZ := Lib.hid hz0
  have hlen : (len0 : Int) ≤ 9223372036854775807 := by have := hz0.2.1; unfold maxLen at this; omega
  clear hz0
  obtain ⟨hfa, hfb⟩ := hf0
  obtain ⟨n0, hn1, hn2, hn3⟩ : ∃ n0, n0 ≤ 20 ∧ n0 ≤ len0 ∧ (n0 = 20 ∨ n0 = len0) := ⟨min len0 20, by omega, by omega, by omega⟩
  have HN := Lib.hid (show n0 ≤ 20 ∧ n0 ≤ len0 ∧ (n0 = 20 ∨ n0 = len0) from ⟨hn1, hn2, hn3⟩)
  clear hn1 hn2 hn3
  have HLEN := Lib.hid hlen
  clear hlen
  go_enter Try.func5, Try.ntmps5
  go_upto_region 5 with (first
    | (go_at_call 7; refine (shown_walk _).mono ?_; rintro e w1 ⟨rfl, ht⟩; have HT := Lib.hid ht; clear ht)
    | (go_at_call 8; refine (ofn (w0 := W) _ (Blk.new _ _ _) (HT.out.alloc _)).mono ?_; rintro e w2 ⟨p, rfl, hs, ht⟩; have HS := Lib.hid hs; clear hs ht))
  by_cases h0 : f0 < 0
  all_goals
    first
      | (have h1 : ¬ (f0 + 1 > 9223372036854775807) := (by omega); obtain ⟨f, hf12, hfe⟩ := off_neg h0; go_upto_region 8 with fail)
      | (have h1 : 0 ≤ f0 := (by omega); obtain ⟨f, hf12, hfe⟩ := off_pos h1; go_upto_region 8 with fail)
    try rw [hfe]
    have HF12 := Lib.hid hf12
    clear hfe hf12 h0 h1 hfa hfb
    go_wp2_with fail
    refine (off_fuse HS.out f HF12.out).mono ?_
    rintro e w3 ⟨rfl, ⟨s0, hI0, hs0⟩, ht⟩
    have HS := Lib.hid hs0
    have HI := Lib.hid hI0
    clear hs0 hI0 ht
    go_wp2_with fail
    go_loopg [8] n0 (fun gk i wr => ∃ (k : Nat) (s : AP), k + gk = n0 ∧ i = .int .i64 (k : Int) ∧ OfI f k s ∧ St W (fun k => k < W.heap.size) wr p s k)
    case atStart => exact ⟨0, s0, by omega, rfl, HI.out, HS.out⟩
    case round =>
      obtain ⟨k, s, hk, rfl, hI, hSt⟩ := hrel
      have HS := Lib.hid hSt
      have HI := Lib.hid hI
      have HK := Lib.hid hk
      clear hSt hI hk
      by_cases hlt : k < n0
      · have y1 : (k : Int) < (len0 : Int) := by have := HN.out; omega
        have y2 : (k : Int) < 20 := by have := HN.out; omega
        have y3 : (0 : Int) ≤ (k : Int) := by omega
        obtain ⟨hl0, hm0, hc0⟩ := HZ.out
        obtain ⟨b, off, rfl, hcell⟩ := hc0 (by omega)
        have hbl : b < W.heap.size := World.block_lt_of_cell? _ _ (hcell k (by omega))
        have hcw : OfS b (off + k) (z0.getD k 0) wr.drew := by
          show wr.cell? ⟨b, off + k, none⟩ = _
          rw [HS.out.tr.cell (p := ⟨b, off + k, none⟩) hbl (fun e => e)]
          exact hcell k (by omega)
        obtain ⟨d, hd⟩ : ∃ d, s.ds[0]? = some d := ⟨_, List.getElem?_eq_getElem (by rw [HI.out.len]; omega)⟩
        have hdn := HI.out.n d hd
        obtain ⟨hI2, hwc⟩ := HI.out.wr hd ((((z0.getD k 0).toNat % 8 : Nat) : Nat) : Int) (fullS (z0.getD k 0))
        have hwr : ∀ (w0 : World) (g c : Nat) (t : TypeId), St W (fun k => k < W.heap.size) w0 p s k → Blk w0 g t (bcs (fullS (z0.getD k 0)).1).toArray → _ := fun w0 g c t h1 h2 => st_wr (c := c) h1 d hd (((z0.getD k 0).toNat % 8 : Nat) : Int) (by rw [hdn]; omega) (fullS (z0.getD k 0)) h2 (by have := HN.out; omega)
        rw [hwc] at hwr
        have HI2 := Lib.hid hI2
        have HWR := Lib.hid hwr
        have HBL := Lib.hid hbl
        have hkl : k < len0 := by have := HN.out; omega
        have HLT := Lib.hid hlt
        generalize s.wr d ((((z0.getD k 0).toNat % 8 : Nat) : Nat) : Int) (fullS (z0.getD k 0)) = s' at *
        clear hl0 hm0 hc0 hcell hbl hdn hI2 hwc hwr hd hlt
        generalize z0.getD k 0 = c at *
        have hc8 : ((c.toNat : Int)).tmod 8 = ((c.toNat % 8 : Nat) : Int) := by rw [Int.tmod_eq_emod_of_nonneg (by omega)]; omega
        have HC8 := Lib.hid hc8
        clear hc8
        go_upto_region 12 with fail
        refine wp_region_till (OfS b (off + k) c) 13 (by kernel_rfl) ?_
        refine till_pure (i := 0) (v := .pointer (some ⟨p, 0, none⟩)) rfl (by kernel_rfl) (by kernel_rfl) (fun _ _ _ h => h) (.inl ⟨by rfl, fun W hW => exec_move rfl rfl⟩) hcw ?_
        simp only [Act.put, List.setIfInBounds_toArray, List.set_cons_zero, List.set_cons_succ]
        refine till_pure (i := 1) (v := .slice (some ⟨b, off, none⟩) len0 cap0) rfl (by kernel_rfl) (by kernel_rfl) (fun _ _ _ h => h) (.inl ⟨by rfl, fun W hW => exec_move rfl rfl⟩) hcw ?_
        simp only [Act.put, List.setIfInBounds_toArray, List.set_cons_zero, List.set_cons_succ]
        refine till_pure (i := 2) (v := .int .i64 (k : Int)) rfl (by kernel_rfl) (by kernel_rfl) (fun _ _ _ h => h) (.inl ⟨by rfl, fun W hW => exec_move rfl rfl⟩) hcw ?_
        simp only [Act.put, List.setIfInBounds_toArray, List.set_cons_zero, List.set_cons_succ]
        refine till_pure (i := 3) (v := .pointer (some ⟨b, off + k, none⟩)) rfl (by kernel_rfl) (by kernel_rfl) (fun _ _ _ h => h) (.inl ⟨by rfl, fun W hW => gx_iaddr (off := off) (n := len0) (c := cap0) (i := k) (sz := 1) (k := .i64) rfl rfl rfl Try.underlying36 info_byte hkl (by omega)⟩) hcw ?_
        simp only [Act.put, List.setIfInBounds_toArray, List.set_cons_zero, List.set_cons_succ]
        refine till_take (i := 4) (v := .int .u8 (c.toNat : Int)) rfl (by kernel_rfl) (by kernel_rfl) (fun _ _ _ h => h) (.inl ⟨by rfl, fun W hW => exec_load1 rfl rfl (by kernel_rfl) hW⟩) hcw ?_
        simp only [Act.put, List.setIfInBounds_toArray, List.set_cons_zero, List.set_cons_succ]
        refine till_pure (i := 5) (v := .int .i64 (c.toNat : Int)) rfl (by kernel_rfl) (by kernel_rfl) (fun _ _ _ h => h) (.inl ⟨by rfl, fun W hW => conv_u8 rfl rfl⟩) hcw ?_
        simp only [Act.put, List.setIfInBounds_toArray, List.set_cons_zero, List.set_cons_succ]
        refine till_pure (i := 6) (v := .int .i64 ((c.toNat % 8 : Nat) : Int)) rfl (by kernel_rfl) (by kernel_rfl) (fun _ _ _ h => h) (.inl ⟨by rfl, fun W hW => by have h := HC8.out; go_simp⟩) hcw ?_
        simp only [Act.put, List.setIfInBounds_toArray, List.set_cons_zero, List.set_cons_succ]
        refine till_pure (i := 7) (v := .slice (some ⟨b, off, none⟩) len0 cap0) rfl (by kernel_rfl) (by kernel_rfl) (fun _ _ _ h => h) (.inl ⟨by rfl, fun W hW => exec_move rfl rfl⟩) hcw ?_
        simp only [Act.put, List.setIfInBounds_toArray, List.set_cons_zero, List.set_cons_succ]
        refine till_pure (i := 8) (v := .int .i64 (k : Int)) rfl (by kernel_rfl) (by kernel_rfl) (fun _ _ _ h => h) (.inl ⟨by rfl, fun W hW => exec_move rfl rfl⟩) hcw ?_
        simp only [Act.put, List.setIfInBounds_toArray, List.set_cons_zero, List.set_cons_succ]
        refine till_pure (i := 9) (v := .pointer (some ⟨b, off + k, none⟩)) rfl (by kernel_rfl) (by kernel_rfl) (fun _ _ _ h => h) (.inl ⟨by rfl, fun W hW => gx_iaddr (off := off) (n := len0) (c := cap0) (i := k) (sz := 1) (k := .i64) rfl rfl rfl Try.underlying36 info_byte hkl (by omega)⟩) hcw ?_
        simp only [Act.put, List.setIfInBounds_toArray, List.set_cons_zero, List.set_cons_succ]
        refine till_take (i := 10) (v := .int .u8 (c.toNat : Int)) rfl (by kernel_rfl) (by kernel_rfl) (fun _ _ _ h => h) (.inl ⟨by rfl, fun W hW => exec_load1 rfl rfl (by kernel_rfl) hW⟩) hcw ?_
        simp only [Act.put, List.setIfInBounds_toArray, List.set_cons_zero, List.set_cons_succ]
        refine till_step (i := 11) (by kernel_rfl) rfl rfl ?_
        intro K1 HK1
        go_wp2_with fail
        refine (full_walk c _).mono ?_
        rintro e w4 ⟨g4, rfl, hz4, hb4, ht4⟩
        have hcw4 : OfS b (off + k) c w4 := by
          show w4.cell? ⟨b, off + k, none⟩ = _
          rw [ht4.cell (p := ⟨b, off + k, none⟩) (Nat.lt_of_lt_of_le HBL.out HS.out.tr.size) (fun e => e)]
          exact hcw
        refine HK1.out _ _ ⟨fun _ => hcw4, ?_⟩
        clear HK1
        refine till_step (i := 12) (by kernel_rfl) rfl rfl ?_
        intro K1 HK1
        go_wp2_with fail
        refine (HWR.out _ _ _ _ ((HS.out.still (Turn.refl _ _).drew).still ht4) hb4).mono ?_
        rintro e w5 ⟨rfl, hs5, ht5⟩
        have hcw5 : OfS b (off + k) c w5 := by
          show w5.cell? ⟨b, off + k, none⟩ = _
          rw [ht5.cell (p := ⟨b, off + k, none⟩) (Nat.lt_of_lt_of_le (Nat.lt_of_lt_of_le HBL.out HS.out.tr.size) ht4.size) (fun e => e HBL.out)]
          exact hcw4
        refine HK1.out _ _ ⟨fun _ => hcw5, ?_⟩
        clear HK1
        refine till_tail 13 rfl (by kernel_rfl) ?_
        have HS5 := Lib.hid hs5
        clear hcw hcw4 hcw5 hb4 ht4 hz4 hs5 ht5
        by_cases hkf : k < f
        · rw [if_pos hkf]
          have v1 : (k : Int) < (f : Int) := by omega
          clear hkf
          go_wp2_with fail
          refine NoPanic.normal ?_
          go_wp2_with fail
          go_roundg (gk - 1)
          case measure => have := HK.out; have := HLT.out; omega
          case rel => exact ⟨k + 1, s', by have := HK.out; have := HLT.out; omega, by go_num, HI2.out, HS5.out⟩
        · rw [if_neg hkf]
          have v1 : (f : Int) ≤ (k : Int) := by omega
          have v2 : decide (k < f) = false := decide_eq_false hkf
          have v3 : ¬ (k : Int) < (f : Int) := by omega
          have v4 : decide ((k : Int) < (f : Int)) = false := decide_eq_false v3
          go_wp2_with fail
          refine NoPanic.normal ?_
          go_wp2_with fail
          go_roundg (gk - 1)
          case measure => have := HK.out; have := HLT.out; omega
          case rel => exact ⟨k + 1, s', by have := HK.out; have := HLT.out; omega, by go_num, HI2.out, HS5.out⟩
      · have hke : k = n0 := by have := HK.out; omega
        have hnl : n0 = 20 ∨ n0 = len0 := HN.out.2.2
        have HKE := Lib.hid hke
        clear hlt hke
        have v20 : (k : Int) = 20 ∨ (k : Int) = len0 := by have := HKE.out; omega
        have hmin : (if (20 : Int) < (if len0 < f then (len0 : Int) else (f : Int)) then (20 : Int) else (if len0 < f then (len0 : Int) else (f : Int))) = ((min f k : Nat) : Int) := by
          have := HKE.out
          have := HN.out
          by_cases c1 : len0 < f
          · rw [if_pos c1]
            by_cases c2 : (20 : Int) < (len0 : Int)
            · rw [if_pos c2]
              omega
            · rw [if_neg c2]
              omega
          · rw [if_neg c1]
            by_cases c2 : (20 : Int) < (f : Int)
            · rw [if_pos c2]
              omega
            · rw [if_neg c2]
              omega
        have HMIN := Lib.hid hmin
        clear hmin hnl
        have HV20 := Lib.hid v20
        clear v20
        by_cases hkl : k < len0
        all_goals
          first
            | (have z1 : (k : Int) < (len0 : Int) := (by omega); have z2 : ¬ (k : Int) < 20 := (by have := HV20.out; omega); have z3 : decide ((k : Int) < 20) = false := decide_eq_false z2; clear hkl; go_upto_region 15 with fail)
            | (have z1 : ¬ (k : Int) < (len0 : Int) := (by omega); have z2 : decide (k < len0) = false := decide_eq_false hkl; have z3 : decide ((k : Int) < (len0 : Int)) = false := decide_eq_false z1; clear hkl; go_upto_region 15 with fail)
          clear z1 z2 z3
          obtain ⟨m, hm⟩ : ∃ m, m = min f k := ⟨_, rfl⟩
          rw [← hm] at HMIN
          have HM := Lib.hid hm
          clear hm
          refine wp_region_lit ?_
          refine wpList_run (v := .int .i64 (f : Int)) rfl (exec_move rfl rfl) ?_
          simp only [Act.put, List.setIfInBounds_toArray, List.set_cons_zero, List.set_cons_succ]
          refine wpList_run (v := .slice a0 len0 cap0) rfl (exec_move rfl rfl) ?_
          simp only [Act.put, List.setIfInBounds_toArray, List.set_cons_zero, List.set_cons_succ]
          refine wpList_run (v := .int .i64 (len0 : Int)) (w' := wr) rfl (gx_len rfl rfl Try.underlying36) ?_
          simp only [Act.put, List.setIfInBounds_toArray, List.set_cons_zero, List.set_cons_succ]
          refine wpList_run (v := .int .i64 (m : Int)) (w' := wr) rfl (by go_simp; exact HMIN.out) ?_
          simp only [Act.put, List.setIfInBounds_toArray, List.set_cons_zero, List.set_cons_succ]
          go_wp2_with fail
          refine (off_fuse0 HS.out HI.out).mono ?_
          rintro e w4 ⟨rfl, ⟨s4, hx4, hl4, hon4, hoff4, hs4⟩, ht4⟩
          rw [← HM.out] at hx4
          have HS := Lib.hid hs4
          have HX := Lib.hid hx4
          have H4 := Lib.hid (And.intro hl4 (And.intro hon4 hoff4))
          clear hs4 hx4 hl4 hon4 hoff4 ht4
          go_wp2_with fail
          refine (st_flush_off HS.out H4.out.1 H4.out.2.1 H4.out.2.2).mono ?_
          rintro e w5 ⟨rfl, hs5, ht5⟩
          obtain ⟨X, hX⟩ : ∃ X, X = s4.burn := ⟨_, rfl⟩
          rw [← hX] at HX hs5
          have HF := Lib.hid (Fam.start (P := fun _ => p) (S := fun _ => X) hs5 rfl rfl)
          clear hX hs5 ht5
          go_wp2_with fail
          refine (HF.out.clone (i := 0) (by omega) (by have := HKE.out; have := HN.out; omega)).mono ?_
          rintro e w6 ⟨q, rfl, hf, ht⟩
          have HF := Lib.hid (hf (p3 p q 0) (p3 X X X) rfl rfl (fun j hj => by
            have hj2 : j = 0 := by omega
            subst hj2
            rfl) (fun j hj => by
            have hj2 : j = 0 := by omega
            subst hj2
            rfl))
          clear hf ht
          go_upto_region 21 with (first
            | (go_at_call 25; refine (fam_steps HF.out (i := 0) (by omega) rfl rfl HX.out.steps).mono ?_; rintro e w7 ⟨rfl, rfl⟩)
            | (go_at_call 26; refine (fam_on HF.out (i := 0) (by omega) rfl rfl HX.out.on).mono ?_; rintro e w7 ⟨rfl, rfl⟩))
          go_upto_region 22 with (first
            | (go_at_call 18; refine (fam_read_off HF.out (i := 0) (by omega) rfl rfl HX.out.on 0 0).mono ?_; rintro e w7 ⟨rfl, rfl⟩))
          go_upto_region 23 with (first
            | (go_at_call 24; refine (full_walk 9 _).mono ?_; rintro e w7 ⟨g7, rfl, hz7, hb7, ht7⟩; have HF := Lib.hid (HF.out.still ht7); clear hz7 hb7 ht7)
            | (go_at_call 14; refine (fam_write_off HF.out (i := 0) (by omega) rfl rfl HX.out.on 0 0 _ 64 64).mono ?_; rintro e w8 ⟨rfl, rfl⟩))
          go_upto_region 24 with (first
            | (go_at_call 16; refine (fam_flush_off HF.out (i := 0) (by omega) rfl rfl HX.out.on 0).mono ?_; rintro e w9 ⟨rfl, rfl⟩))
          go_upto_region 25 with (first
            | (go_at_call 19; refine (fam_fuse_off HF.out (i := 0) (by omega) rfl rfl HX.out.on 3 (by omega)).mono ?_; rintro e w9 ⟨rfl, hf, ht⟩; have HF := Lib.hid hf; clear hf ht))
          go_upto_region 27 with (first
            | (go_at_call 25; refine (fam_steps HF.out (i := 0) (by omega) rfl rfl HX.out.steps).mono ?_; rintro e w10 ⟨rfl, rfl⟩)
            | (go_at_call 26; refine (fam_on HF.out (i := 0) (by omega) rfl rfl HX.out.on).mono ?_; rintro e w10 ⟨rfl, rfl⟩))
          obtain ⟨Y, hY⟩ : ∃ Y, Y = X.boot [1] := ⟨_, rfl⟩
          have HY := Lib.hid hY
          have hyd := boot_disk [1] HX.out.len HX.out.n
          rw [← hY] at hyd
          obtain ⟨d, hd, hdn⟩ := hyd
          have HYD := Lib.hid (And.intro hd hdn)
          have HYO := Lib.hid (show Y.on = true by rw [hY]; rfl)
          clear hY hd hdn
          go_wp2_with fail
          have hkp := HF.out.keep ((Turn.refl nowhere w9).alloc (.cells #[.int .i64 1] 3)) (Nat.le_refl _) (by simp)
          refine (fam_boot hkp (i := 0) (by omega) rfl [1] (Blk.new w9 _ _) (.inr rfl) (m := 1) rfl (by omega) (by have := HKE.out; have := HN.out; omega)).mono ?_
          rintro e w11 ⟨rfl, hf, ht⟩
          have HF := Lib.hid (hf (p3 Y X X) HY.out (fun j hj hji => by
            have hj2 : j = 1 := by omega
            subst hj2
            rfl))
          clear hf ht hkp
          go_wp2_with fail
          have hkp := HF.out.keep ((Turn.refl nowhere w11).alloc (.cells #[.int .i64 1] 3)) (Nat.le_refl _) (by simp)
          refine (fam_boot hkp (i := 1) (by omega) rfl [1] (Blk.new w11 _ _) (.inr rfl) (m := 1) rfl (by omega) (by have := HKE.out; have := HN.out; omega)).mono ?_
          rintro e w12 ⟨rfl, hf, ht⟩
          have HF := Lib.hid (hf (p3 Y Y X) HY.out (fun j hj hji => by
            have hj2 : j = 0 := by omega
            subst hj2
            rfl))
          clear hf ht hkp
          go_wp2_with fail
          generalize (fun k => (_ : Prop)) = LL at HF
          go_loopg [17] 8 (fun gk i wq => ∃ jn : Nat, jn + gk = 8 ∧ i = .int .i64 (jn : Int) ∧ Turn nowhere w12 wq)
          case atStart => exact ⟨0, rfl, rfl, Turn.refl _ _⟩
          case round =>
            obtain ⟨jn, hjk, rfl, htq⟩ := hrel
            have HJK := Lib.hid hjk
            have HTq := Lib.hid htq
            clear hjk htq
            have HFq := Lib.hid (HF.out.still HTq.out)
            by_cases hj : jn < 8
            · have v1 : (jn : Int) < 8 := by omega
              have v2 : (0 : Int) ≤ (jn : Int) := by omega
              have hp8 : 0 ≤ (jn : Int) ∧ (jn : Int) < d.n := by rw [HYD.out.2]; omega
              have HP8 := Lib.hid hp8
              clear hp8 hj
              go_wp2_with fail
              refine (fam_read HFq.out (i := 0) (by omega) rfl rfl 0 (dev := 0) rfl d HYD.out.1 HYO.out (jn : Int) HP8.out rfl).mono ?_
              rintro e w13 ⟨R1, rfl, hz, hb, ht⟩
              have HR1 := Lib.hid hb
              have HFq := Lib.hid (HFq.out.still ht)
              have HT1 := Lib.hid ht
              clear hz hb ht
              go_wp2_with fail
              refine (fam_read HFq.out (i := 1) (by omega) rfl rfl 0 (dev := 0) rfl d HYD.out.1 HYO.out (jn : Int) HP8.out rfl).mono ?_
              rintro e w14 ⟨R2, rfl, hz, hb, ht⟩
              have HR1 := Lib.hid (HR1.out.turn ht fun e => e)
              have HR2 := Lib.hid hb
              have HT2 := Lib.hid ht
              clear hz hb ht
              generalize d.read (jn : Int) = Z at *
              go_upto_region 34 with fail
              refine wp_region_lit ?_
              refine wpList_run (v := .slice (some ⟨R1, 0, none⟩) 64 64) rfl (exec_move rfl rfl) ?_
              simp only [Act.put, List.setIfInBounds_toArray, List.set_cons_zero, List.set_cons_succ]
              refine wpList_run (v := strV Z.1) (w' := w14) rfl (exec_str rfl rfl Z.2 (range_blk HR1.out)) ?_
              simp only [Act.put, List.setIfInBounds_toArray, List.set_cons_zero, List.set_cons_succ]
              refine wpList_run (v := .slice (some ⟨R2, 0, none⟩) 64 64) rfl (exec_move rfl rfl) ?_
              simp only [Act.put, List.setIfInBounds_toArray, List.set_cons_zero, List.set_cons_succ]
              refine wpList_run (v := strV Z.1) (w' := w14) rfl (exec_str rfl rfl Z.2 (range_blk HR2.out)) ?_
              simp only [Act.put, List.setIfInBounds_toArray, List.set_cons_zero, List.set_cons_succ]
              refine wpList_run (v := .bool false) (w' := w14) rfl ((exec_sneqp (l := Z.1) (m := Z.1) rfl rfl rfl).trans (by simp)) ?_
              simp only [Act.put, List.setIfInBounds_toArray, List.set_cons_zero, List.set_cons_succ]
              go_wp2_with fail
              go_roundg (gk - 1)
              case measure => have := HJK.out; omega
              case rel => exact ⟨jn + 1, by have := HJK.out; omega, by go_num, (HTq.out.trans HT1.out (fun _ _ e => e)).trans HT2.out (fun _ _ e => e)⟩
            · have v1 : ¬ (jn : Int) < 8 := by omega
              have HTT := Lib.hid HFq.out.tr
              clear hj
              go_upto_region 36 with fail
              go_wp2_with (go_at_call 26; refine (fam_on HFq.out (i := 0) (by omega) rfl rfl HYO.out).mono ?_; rintro e w15 ⟨rfl, rfl⟩)
              go_ret
              exact ⟨rfl, HTT.out.below (Nat.le_refl _) (fun _ _ e => e)⟩
end Go.Proofs.Ytgdlidjjogoiaaa
