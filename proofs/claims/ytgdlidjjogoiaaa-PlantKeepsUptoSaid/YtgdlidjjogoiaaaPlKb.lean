/-
  groatlaw03's PlantKeeps, walked
-/
import Derived.Test.YtgdlidjjogoiaaaPlKa
import Derived.Test.YtgdlidjjogoiaaaPlOf
import Derived.Test.YtgdlidjjogoiaaaAlw
namespace Go.Proofs.Ytgdlidjjogoiaaa
open Go.RowKit Go.Maps
set_option linter.unusedVariables false
theorem sizes16 : sizesOk [16] := ⟨by decide, by decide, by decide⟩
def kp0 : AP := AP.new [16]
theorem kp0_start (zs : List UInt8) : KpA zs 0 kp0 := KpA.start zs
theorem kpn {w0 w : World} {t : TypeId} (g : Nat) (hb : Blk w g t (intsC [16])) (h0 : Turn nowhere w0 w) : Calls Try.prog 8 #[.slice (some ⟨g, 0, none⟩) 1 1] w fun e w' => ∃ p, e = .returned (.tuple #[.pointer (some ⟨p, 0, none⟩), .int .i64 0]) ∧ St w0 (fun k => k < w0.heap.size) w' p kp0 0 ∧ Turn nowhere w w' :=
  st_new hb rfl sizes16 h0
theorem make16 : ∀ W : World, (Instr.makeSlice 36 (.int .i64 16) (.int .i64 16)).run Try.prog W = .ok (.slice (some ⟨W.heap.size, 0, none⟩) 16 16) (W.alloc (.cells (bcs (List.replicate 16 0)).toArray 5)) := fun W => by kernel_rfl
section
variable {w0 w w' : World} {L : Nat → Prop} {p K : Nat} {s : AP}
theorem st_boot_arg (h : St w0 L w p s K) {a : Option Addr} {zs : List Int} {n c : Nat} (hz : Ks w0 nowhere a n zs) (hK : K < 1099511627776) :
    Calls Try.prog 21 #[.pointer (some ⟨p, 0, none⟩), .slice a n c] w fun e w' => e = .returned (.tuple #[]) ∧ St w0 L w' p (s.boot zs) K ∧ Turn (kept L) w w' := by
  obtain ⟨F, hP, hF⟩ := h.pl
  obtain ⟨h1, h2, h3⟩ := hz
  refine (boot_ok hP a n c zs ⟨h1, h2, fun hp => ?_⟩ hK).mono fun e w' ⟨he, hg⟩ => ⟨he, h.goes hF hg⟩
  obtain ⟨g, off, e, h4, h5, h6⟩ := h3 hp
  exact ⟨g, off, e, Nat.lt_of_lt_of_le h4 h.tr.size, fun hf => hF _ hf (h.lo _ h4), fun i hi => (h.tr.cell (p := ⟨g, off + i, none⟩) h4 (fun e => e)).trans (h6 i hi)⟩
end
section
variable {w0 w w' : World} {L : Nat → Prop} {n K : Nat} {P : Nat → Nat} {S : Nat → AP}
theorem fam_boot_arg (h : Fam w0 L w n P S K) {i : Nat} (hi : i < n) {pp : Nat} (hP : P i = pp) {a : Option Addr} {zs : List Int} {m c : Nat} (hz : Ks w0 nowhere a m zs) (hK : K < 1099511627776) :
    Calls Try.prog 21 #[.pointer (some ⟨pp, 0, none⟩), .slice a m c] w fun e w' => e = .returned (.tuple #[]) ∧ (∀ S', S' i = (S i).boot zs → (∀ j, j < n → j ≠ i → S' j = S j) → Fam w0 L w' n P S' K) ∧ Turn (kept L) w w' := by
  obtain ⟨L', h1, h2, h3⟩ := h.at_ hi
  subst hP
  exact (st_boot_arg h2 hz hK).mono fun e w' ⟨he, hs, ht⟩ => ⟨he, fun S' e1 e2 => h3 w' _ K S' (Nat.le_refl _) hs ht e1 e2, kept_mono h1 ht⟩
theorem fam_boot_nil (h : Fam w0 L w n P S K) {i : Nat} (hi : i < n) {pp : Nat} (hP : P i = pp) (hK : K < 1099511627776) :
    Calls Try.prog 21 #[.pointer (some ⟨pp, 0, none⟩), .slice none 0 0] w fun e w' => e = .returned (.tuple #[]) ∧ (∀ S', S' i = (S i).boot [] → (∀ j, j < n → j ≠ i → S' j = S j) → Fam w0 L w' n P S' K) ∧ Turn (kept L) w w' := by
  obtain ⟨L', h1, h2, h3⟩ := h.at_ hi
  subst hP
  exact (st_boot_nil h2 none hK).mono fun e w' ⟨he, hs, ht⟩ => ⟨he, fun S' e1 e2 => h3 w' _ K S' (Nat.le_refl _) hs ht e1 e2, kept_mono h1 ht⟩
end
section
variable {P : Program} {md : Region.Mode} {ops : Array Oper} {Q : Exit → Act → World → Prop}
theorem alw_mono {S S' : World → Prop} (h : ∀ w, S' w → S w) : ∀ (n : Nat) (l : Array Bool) (a : Act) (w : World), Alw P md ops Q S' n l a w → Alw P md ops Q S n l a w
  | 0, _, _, _, H => H
  | n + 1, _, _, _, H => ⟨H.1, fun i hi => wpOp_mono (fun _ _ h' => ⟨h _ h'.1, alw_mono h n _ _ _ h'.2⟩) (H.2 i hi)⟩
end
theorem exec_mul3 {a : Act} {o : Oper} {W : World} {x : Operand} {k q : Nat} (ho : o.op = .binOp .mul 3 (.const (.int .i64 3)) x 3) (hx : a.eval x = .int .i64 (k : Int)) (hq : q = 3 * k) (hk : k ≤ 100000000) : (execOp a.eval o).run Try.prog W = .ok (.value (.int .i64 (q : Int))) W := by
  have hw : IntKind.i64.wrap (3 * (k : Int)) = (q : Int) := by
    rw [IntKind.wrap_i64]
    omega
  have hc : a.eval (.const (.int .i64 3)) = .int .i64 3 := rfl
  unfold execOp
  simp only [ho, hx, hc]
  go_simp
/-- what the law's may is behind j rounds -/
def mayB (old ts : List UInt8) (m : Nat) (x : UInt8) : Nat → Bool
  | 0 => x == old.getD m 0
  | j + 1 => mayB old ts m x j || (3 * j % 16 == m && x == ts.getD j 0)
theorem mayB_mono {old ts : List UInt8} {m : Nat} {x : UInt8} : ∀ {j k : Nat}, j ≤ k → mayB old ts m x j = true → mayB old ts m x k = true
  | j, 0, h, hj => by
    obtain rfl : j = 0 := by omega
    exact hj
  | j, k + 1, h, hj => by
    by_cases e : j = k + 1
    · subst e
      exact hj
    · have := mayB_mono (show j ≤ k by omega) hj
      unfold mayB
      rw [this]
      rfl
theorem mayB_of {old ts : List UInt8} {k m : Nat} {x : UInt8} (h : MayBe old ts k m x) : mayB old ts m x k = true := by
  rcases h with h | ⟨i, hi, h1, h2⟩
  · refine mayB_mono (Nat.zero_le k) ?_
    unfold mayB
    simp [h]
  · refine mayB_mono (show i + 1 ≤ k by omega) ?_
    unfold mayB
    simp [h1, h2]
def KsS (gb m R2 : Nat) (c : UInt8) (W : World) : Prop := OfS gb m c W ∧ Blk W R2 66 (bcs (fullS c).1).toArray
theorem cell_of {w : World} {g m n : Nat} {t : TypeId} {l : List UInt8} (h : Blk w g t (bcs l).toArray) (hm : m < l.length) : OfS g m (l.getD m 0) w := by
  show w.cell? ⟨g, m, none⟩ = _
  rw [h.cell]
  have := bcs_at l m hm
  simpa using this
theorem exec_mul32 {a : Act} {o : Oper} {W : World} {x : Operand} {k q : Nat} (ho : o.op = .binOp .mul 3 (.const (.int .i64 32)) x 3) (hx : a.eval x = .int .i64 (k : Int)) (hq : q = 32 * k) (hk : k ≤ 100000000) : (execOp a.eval o).run Try.prog W = .ok (.value (.int .i64 (q : Int))) W := by
  have hw : IntKind.i64.wrap (32 * (k : Int)) = (q : Int) := by
    rw [IntKind.wrap_i64]
    omega
  have hc : a.eval (.const (.int .i64 32)) = .int .i64 32 := rfl
  unfold execOp
  simp only [ho, hx, hc]
  go_simp
theorem exec_add32 {a : Act} {o : Oper} {W : World} {x : Operand} {k : Nat} (ho : o.op = .binOp .add 3 x (.const (.int .i64 32)) 3) (hx : a.eval x = .int .i64 (k : Int)) (hk : k ≤ 100000000) : (execOp a.eval o).run Try.prog W = .ok (.value (.int .i64 ((k + 32 : Nat) : Int))) W := by
  have hw : IntKind.i64.wrap ((k : Int) + 32) = ((k + 32 : Nat) : Int) := by
    rw [IntKind.wrap_i64]
    omega
  have hc : a.eval (.const (.int .i64 32)) = .int .i64 32 := rfl
  unfold execOp
  simp only [ho, hx, hc]
  rw [← hw]
  go_simp
theorem exec_beq8 {a : Act} {o : Oper} {W : World} {x y : Operand} {b c : UInt8} (ho : o.op = .binOp .eql 5 x y 5) (hx : a.eval x = .int .u8 (b.toNat : Int)) (hy : a.eval y = .int .u8 (c.toNat : Int)) : (execOp a.eval o).run Try.prog W = .ok (.value (.bool (b == c))) W := by
  have hb : (b == c) = decide ((b.toNat : Int) = (c.toNat : Int)) := by
    by_cases e : b = c
    · subst e
      simp
    · have h2 : ¬ (b.toNat : Int) = (c.toNat : Int) := fun h => e (UInt8.toNat_inj.1 (by omega))
      rw [decide_eq_false h2]
      simp [e]
  rw [hb]
  unfold execOp
  simp only [ho, hx, hy]
  go_simp
  first | rfl | simp
def abOf (h : Nat) (xa xb : UInt8) : UInt8 := if h = 0 then xa else xb
theorem slice_h0 (g : Nat) (W : World) : (Instr.sliceAt 36 (.slice (some ⟨g, 0, none⟩) 64 64) (some (.int .i64 0)) (some (.int .i64 32)) none).run Try.prog W = .ok (.slice (some ⟨g, 0, none⟩) 32 64) W := by kernel_rfl
theorem slice_h1 (g : Nat) (W : World) : (Instr.sliceAt 36 (.slice (some ⟨g, 0, none⟩) 64 64) (some (.int .i64 32)) (some (.int .i64 64)) none).run Try.prog W = .ok (.slice (some ⟨g, 32, none⟩) 32 32) W := by kernel_rfl
theorem slice_half (g h o : Nat) (hh : h < 2) (ho : o = 32 * h) (W : World) : (Instr.sliceAt 36 (.slice (some ⟨g, 0, none⟩) 64 64) (some (.int .i64 (o : Int))) (some (.int .i64 ((o + 32 : Nat) : Int))) none).run Try.prog W = .ok (.slice (some ⟨g, o, none⟩) 32 (64 - o)) W := by
  have h2 : h = 0 ∨ h = 1 := by omega
  rcases h2 with rfl | rfl <;> subst ho
  · exact slice_h0 g W
  · exact slice_h1 g W
theorem half_rng {w : World} {g h o : Nat} {t : TypeId} {S : Sec} {xa xb : UInt8} (hb : Blk w g t (bcs S.1).toArray) (hS : S.1 = List.replicate 32 xa ++ List.replicate 32 xb) (hh : h < 2) (ho : o = 32 * h) : w.rangeAt g o (bcs (List.replicate 32 (abOf h xa xb))) := by
  have h2 : h = 0 ∨ h = 1 := by omega
  rcases h2 with rfl | rfl <;> subst ho
  · have := rng_to hb 32
    rwa [hS, hv_take] at this
  · have := rng_from hb 32
    rwa [hS, hv_drop] at this
theorem half_cell {w : World} {g h o : Nat} {t : TypeId} {S : Sec} {xa xb : UInt8} (hb : Blk w g t (bcs S.1).toArray) (hS : S.1 = List.replicate 32 xa ++ List.replicate 32 xb) (hh : h < 2) (ho : o = 32 * h) : OfS g o (abOf h xa xb) w := by
  have := half_rng hb hS hh ho 0 (.int .u8 ((abOf h xa xb).toNat : Int)) (by simp [bcs, List.replicate_succ])
  exact this
theorem full_take (x : UInt8) : (fullS x).1.take 32 = List.replicate 32 x := by
  show (List.replicate 64 x).take 32 = _
  simp
theorem mayB_ab {old ts : List UInt8} {m h k : Nat} {xa xb : UInt8} (H : mayB old ts m xa k = true ∧ mayB old ts m xb k = true) : mayB old ts m (abOf h xa xb) k = true := by
  unfold abOf
  split
  · exact H.1
  · exact H.2
theorem bcs_set (l : List UInt8) (i : Nat) (c : UInt8) : (bcs l).toArray.setIfInBounds i (.int .u8 (c.toNat : Int)) = (bcs (l.set i c)).toArray := by
  unfold bcs
  apply Array.ext'
  simp [List.map_set]
attribute [local irreducible] kp0 fullS zeroSec
set_option maxHeartbeats 4000000 in
set_option maxRecDepth 40000 in
theorem plantKeeps_walk (a0 : Option Addr) (len0 cap0 : Nat) (z0 : List UInt8) (a1 : Option Addr) (len1 cap1 : Nat) (z1 : List UInt8) (a2 : Option Addr) (len2 cap2 : Nat) (z2 : List Int) (W : World) (hz0 : Bs W a0 len0 z0) (hz1 : Bs W a1 len1 z1) (hz2 : Ks W nowhere a2 len2 z2) (hl0 : len0 ≤ 1048576) (hl1 : len1 ≤ 1048576) :
    Calls Try.prog 4 #[.slice a0 len0 cap0, .slice a1 len1 cap1, .slice a2 len2 cap2] W fun e w' => e = .returned (.bool true) ∧ Below W.heap.size W w' := by
  have HZ0 := Lib.hid hz0
  have HZ1 := Lib.hid hz1
  have HZ2 := Lib.hid hz2
  have HLEN := Lib.hid (And.intro hl0 hl1)
  clear hz0 hz1 hz2 hl0 hl1
  have hmk := make16
  go_enter Try.func4, Try.ntmps4
  go_upto_region 6 with (first
    | (go_at_call 7; refine (shown_walk _).mono ?_; rintro e w1 ⟨rfl, ht⟩; have HT := Lib.hid ht; clear ht)
    | (go_at_call 8; refine (kpn (w0 := W) _ (Blk.new _ _ _) (HT.out.alloc _)).mono ?_; rintro e w2 ⟨p, rfl, hs, ht⟩; have HS := Lib.hid hs; clear hs ht))
  clear hmk
  have hs1 := HS.out.keep ((Turn.refl nowhere _).alloc (.cells (bcs (List.replicate 16 0)).toArray 5)) (Nat.le_refl _) (by simp)
  have hb1 := Blk.new w2 5 (bcs (List.replicate 16 0)).toArray
  have hgb : W.heap.size ≤ w2.heap.size := HS.out.tr.size
  change Code.wp _ _ _ _ (w2.alloc (.cells (bcs (List.replicate 16 0)).toArray 5))
  generalize (w2.alloc (.cells (bcs (List.replicate 16 0)).toArray 5)) = w3 at *
  generalize w2.heap.size = gb at *
  have HS := Lib.hid hs1
  have HB := Lib.hid (show Blk w3 gb 5 (bcs (oldK z0 0)).toArray from hb1)
  have HG := Lib.hid hgb
  have HT := True.intro
  clear hs1 hb1 hgb
  go_wp2_with fail
  obtain ⟨LL, hLL⟩ : ∃ LL : Nat → Prop, LL = fun k => k < W.heap.size ∨ k = gb := ⟨_, rfl⟩
  rw [← hLL] at HS
  have HL := Lib.hid hLL
  clear hLL
  go_loopg [11] len0 (fun gk i wr => ∃ (k : Nat) (s : AP), k + gk = len0 ∧ i = .int .i64 (k : Int) ∧ KpA z0 k s ∧ St W LL wr p s k ∧ Blk wr gb 5 (bcs (oldK z0 k)).toArray)
  case atStart => exact ⟨0, _, by omega, rfl, kp0_start z0, HS.out, HB.out⟩
  case round =>
    obtain ⟨k, s, hk, rfl, hI, hSt, hBk⟩ := hrel
    have HS := Lib.hid hSt
    have HB := Lib.hid hBk
    have HI := Lib.hid hI
    have HK := Lib.hid hk
    clear hSt hI hk hBk
    by_cases hlt : k < len0
    · have y1 : (k : Int) < (len0 : Int) := by omega
      have y3 : (0 : Int) ≤ (k : Int) := by omega
      have y5 : (len0 : Int) ≤ 1048576 := by have := HLEN.out; omega
      obtain ⟨hl0, hm0, hc0⟩ := HZ0.out
      obtain ⟨b, off, rfl, hcell⟩ := hc0 (by omega)
      have hbl : b < W.heap.size := World.block_lt_of_cell? _ _ (hcell k (by omega))
      have hcw : OfS b (off + k) (z0.getD k 0) wr := by
        show wr.cell? ⟨b, off + k, none⟩ = _
        rw [HS.out.tr.cell (p := ⟨b, off + k, none⟩) hbl (fun e => e)]
        exact hcell k (by omega)
      have HKL := Lib.hid hlt
      have HBL := Lib.hid hbl
      have HCW := Lib.hid hcw
      clear hl0 hm0 hc0 hcell hbl hcw hlt
      have hmod : (k : Int).tmod 16 = ((k % 16 : Nat) : Int) := by rw [Int.tmod_eq_emod_of_nonneg (by omega)]; omega
      have HMOD := Lib.hid hmod
      clear hmod
      obtain ⟨c, hc⟩ : ∃ c, c = z0.getD k 0 := ⟨_, rfl⟩
      rw [← hc] at HCW
      have HC := Lib.hid hc
      clear hc
      go_upto_region 9 with fail
      refine wp_region_lit ?_
      refine wpList_run (v := .pointer (some ⟨p, 0, none⟩)) rfl (exec_move rfl rfl) ?_
      simp only [Act.put, List.setIfInBounds_toArray, List.set_cons_zero, List.set_cons_succ]
      refine wpList_run (v := .int .i64 (k : Int)) rfl (exec_move rfl rfl) ?_
      simp only [Act.put, List.setIfInBounds_toArray, List.set_cons_zero, List.set_cons_succ]
      refine wpList_run (v := .int .i64 ((k % 16 : Nat) : Int)) (w' := wr) rfl (by have h := HMOD.out; go_simp) ?_
      simp only [Act.put, List.setIfInBounds_toArray, List.set_cons_zero, List.set_cons_succ]
      refine wpList_run (v := .slice (some ⟨b, off, none⟩) len0 cap0) rfl (exec_move rfl rfl) ?_
      simp only [Act.put, List.setIfInBounds_toArray, List.set_cons_zero, List.set_cons_succ]
      refine wpList_run (v := .int .i64 (k : Int)) rfl (exec_move rfl rfl) ?_
      simp only [Act.put, List.setIfInBounds_toArray, List.set_cons_zero, List.set_cons_succ]
      refine wpList_run (v := .pointer (some ⟨b, off + k, none⟩)) (w' := wr) rfl (gx_iaddr (off := off) (n := len0) (c := cap0) (i := k) (sz := 1) (k := .i64) rfl rfl rfl Try.underlying36 info_byte HKL.out (by omega)) ?_
      simp only [Act.put, List.setIfInBounds_toArray, List.set_cons_zero, List.set_cons_succ]
      refine wpList_run (v := .int .u8 (c.toNat : Int)) (w' := wr) rfl (exec_load1 rfl rfl (by kernel_rfl) HCW.out) ?_
      simp only [Act.put, List.setIfInBounds_toArray, List.set_cons_zero, List.set_cons_succ]
      go_wp2_with fail
      have HS0 := HS
      refine (full_walk c _).mono ?_
      rintro e w4 ⟨g4, rfl, hz4, hb4, ht4⟩
      have HS := Lib.hid (HS.out.still ht4)
      have HB := Lib.hid (HB.out.turn ht4 fun e => e)
      have HB4 := Lib.hid hb4
      have HT4 := Lib.hid ht4
      clear hb4 hz4 ht4
      go_wp2_with fail
      obtain ⟨d, hd, hdn⟩ := HI.out.disk
      refine (st_write HS.out 0 (dev := 0) rfl d hd HI.out.on _ (by rw [hdn]; omega) (by rw [HI.out.fuse]; decide) (fullS c) HB4.out (by have := HKL.out; have := HLEN.out; omega)).mono ?_
      rintro e w5 ⟨rfl, hs5, ht5⟩
      have HB := Lib.hid (blk_kept HB.out ht5 (by rw [HL.out]; exact .inr rfl))
      have hI2 := HI.out.put hd (b := fullS c) (by rw [HC.out]) (place := (k : Int) % 16) (by omega)
      have hcw5 : OfS b (off + k) c w5 := by
        show w5.cell? ⟨b, off + k, none⟩ = _
        rw [ht5.cell (p := ⟨b, off + k, none⟩) (Nat.lt_of_lt_of_le (Nat.lt_of_lt_of_le HBL.out (Nat.le_trans (Nat.le_refl _) HS.out.tr.size)) (Nat.le_refl _)) (fun e => e (HS.out.lo _ HBL.out)), HT4.out.cell (p := ⟨b, off + k, none⟩) (Nat.lt_of_lt_of_le HBL.out HS0.out.tr.size) (fun e => e)]
        exact HCW.out
      have HS := Lib.hid hs5
      have HI2 := Lib.hid hI2
      have HC5 := Lib.hid hcw5
      clear hs5 hI2 hcw5 ht5 hd hdn
      generalize s.put 0 d ((k : Int) % 16) (fullS c) = s' at *
      go_upto_region 10 with fail
      have hcg : w5.cell? ⟨gb, k % 16, none⟩ = some (.int .u8 (((oldK z0 k).getD (k % 16) 0).toNat : Int)) := by
        rw [HB.out.cell]
        have := bcs_at (oldK z0 k) (k % 16) (by rw [oldK_length]; omega)
        simpa using this
      have hfz := HB.out.frozen (k % 16)
      refine wp_region_lit ?_
      refine wpList_run (v := .slice (some ⟨gb, 0, none⟩) 16 16) rfl (exec_move rfl rfl) ?_
      simp only [Act.put, List.setIfInBounds_toArray, List.set_cons_zero, List.set_cons_succ]
      refine wpList_run (v := .int .i64 (k : Int)) rfl (exec_move rfl rfl) ?_
      simp only [Act.put, List.setIfInBounds_toArray, List.set_cons_zero, List.set_cons_succ]
      refine wpList_run (v := .int .i64 ((k % 16 : Nat) : Int)) (w' := w5) rfl (by have h := HMOD.out; go_simp) ?_
      simp only [Act.put, List.setIfInBounds_toArray, List.set_cons_zero, List.set_cons_succ]
      refine wpList_run (v := .slice (some ⟨b, off, none⟩) len0 cap0) rfl (exec_move rfl rfl) ?_
      simp only [Act.put, List.setIfInBounds_toArray, List.set_cons_zero, List.set_cons_succ]
      refine wpList_run (v := .int .i64 (k : Int)) rfl (exec_move rfl rfl) ?_
      simp only [Act.put, List.setIfInBounds_toArray, List.set_cons_zero, List.set_cons_succ]
      refine wpList_run (v := .pointer (some ⟨b, off + k, none⟩)) (w' := w5) rfl (gx_iaddr (off := off) (n := len0) (c := cap0) (i := k) (sz := 1) (k := .i64) rfl rfl rfl Try.underlying36 info_byte HKL.out (by omega)) ?_
      simp only [Act.put, List.setIfInBounds_toArray, List.set_cons_zero, List.set_cons_succ]
      refine wpList_run (v := .int .u8 (c.toNat : Int)) (w' := w5) rfl (exec_load1 rfl rfl (by kernel_rfl) HC5.out) ?_
      simp only [Act.put, List.setIfInBounds_toArray, List.set_cons_zero, List.set_cons_succ]
      refine wpList_run (v := .pointer (some ⟨gb, k % 16, none⟩)) (w' := w5) rfl (gx_iaddr (off := 0) (n := 16) (c := 16) (i := k % 16) (sz := 1) (k := .i64) rfl rfl rfl Try.underlying36 info_byte (by omega) (by omega)) ?_
      simp only [Act.put, List.setIfInBounds_toArray, List.set_cons_zero, List.set_cons_succ]
      go_wp2_with fail
      go_roundg (gk - 1)
      case measure => have := HK.out; have := HKL.out; omega
      case rel =>
        refine ⟨k + 1, s', by have := HK.out; have := HKL.out; omega, by go_num, HI2.out, HS.out.poke ((Turn.refl (only gb) w5).setCell (p := ⟨gb, k % 16, none⟩) (fun _ => rfl) _) (by rw [HL.out]; exact .inr rfl) HG.out, ?_⟩
        have := HB.out.set_ (k % 16) (.int .u8 (c.toNat : Int))
        rw [bcs_set, HC.out] at this
        rw [HC.out]
        exact this
    · have hke : k = len0 := by have := HK.out; omega
      have z1 : ¬ (k : Int) < (len0 : Int) := by omega
      have z2 : decide (k < len0) = false := decide_eq_false hlt
      have z3 : decide ((k : Int) < (len0 : Int)) = false := decide_eq_false z1
      have HKE := Lib.hid hke
      clear hlt hke
      go_wp2_with fail
      clear z1 z2 z3
      obtain ⟨d, hd, hdn⟩ := HI.out.disk
      refine (st_flush HS.out 0 (dev := 0) rfl d hd HI.out.on (by rw [HI.out.fuse]; decide) (by have := HKE.out; have := HLEN.out; omega)).mono ?_
      rintro e w4 ⟨rfl, hs4, ht4⟩
      have HB := Lib.hid (blk_kept HB.out ht4 (by rw [HL.out]; exact .inr rfl))
      have hI2 := HI.out.flushed (ts := z1) hd
      rw [HKE.out] at hs4
      have HS := Lib.hid hs4
      have HI := Lib.hid hI2
      have hol := oldK_length z0 k
      generalize s.flushed 0 d = s4 at *
      generalize oldK z0 k = old at *
      have HOL := Lib.hid hol
      clear hs4 hI2 ht4 hd hdn hol
      have HKE := True.intro
      have HK := True.intro
      go_upto_region 14 with fail
      go_wp2_with fail
      go_loopg [13] len1 (fun gk i wr => ∃ (k : Nat) (s : AP), k + gk = len1 ∧ i = .int .i64 (k : Int) ∧ KpB old z1 k s ∧ St W LL wr p s (len0 + 1 + k) ∧ Blk wr gb 5 (bcs old).toArray)
      case atStart => exact ⟨0, s4, by omega, rfl, HI.out, HS.out, HB.out⟩
      case round =>
        obtain ⟨k, s, hk, rfl, hI, hSt, hBk⟩ := hrel
        have HS := Lib.hid hSt
        have HB := Lib.hid hBk
        have HI := Lib.hid hI
        have HK := Lib.hid hk
        clear hSt hI hk hBk
        by_cases hlt : k < len1
        · have y1 : (k : Int) < (len1 : Int) := by omega
          have y3 : (0 : Int) ≤ (k : Int) := by omega
          have y5 : (len1 : Int) ≤ 1048576 := by have := HLEN.out; omega
          obtain ⟨hl0, hm0, hc0⟩ := HZ1.out
          obtain ⟨b, off, rfl, hcell⟩ := hc0 (by omega)
          have hbl : b < W.heap.size := World.block_lt_of_cell? _ _ (hcell k (by omega))
          have hcw : OfS b (off + k) (z1.getD k 0) wr := by
            show wr.cell? ⟨b, off + k, none⟩ = _
            rw [HS.out.tr.cell (p := ⟨b, off + k, none⟩) hbl (fun e => e)]
            exact hcell k (by omega)
          have HKL := Lib.hid hlt
          have HBL := Lib.hid hbl
          have HCW := Lib.hid hcw
          clear hl0 hm0 hc0 hcell hbl hcw hlt
          obtain ⟨q, hq⟩ : ∃ q, q = 3 * k := ⟨_, rfl⟩
          have hmod : (q : Int).tmod 16 = ((q % 16 : Nat) : Int) := by rw [Int.tmod_eq_emod_of_nonneg (by omega)]; omega
          have HMOD := Lib.hid hmod
          have HQ := Lib.hid hq
          clear hmod hq
          obtain ⟨c, hc⟩ : ∃ c, c = z1.getD k 0 := ⟨_, rfl⟩
          rw [← hc] at HCW
          have HC := Lib.hid hc
          clear hc
          go_upto_region 17 with fail
          refine wp_region_lit ?_
          refine wpList_run (v := .pointer (some ⟨p, 0, none⟩)) rfl (exec_move rfl rfl) ?_
          simp only [Act.put, List.setIfInBounds_toArray, List.set_cons_zero, List.set_cons_succ]
          refine wpList_run (v := .int .i64 (k : Int)) rfl (exec_move rfl rfl) ?_
          simp only [Act.put, List.setIfInBounds_toArray, List.set_cons_zero, List.set_cons_succ]
          refine wpList_run (v := .int .i64 (q : Int)) (w' := wr) rfl (exec_mul3 rfl rfl HQ.out (by have := HKL.out; have := HLEN.out; omega)) ?_
          simp only [Act.put, List.setIfInBounds_toArray, List.set_cons_zero, List.set_cons_succ]
          refine wpList_run (v := .int .i64 ((q % 16 : Nat) : Int)) (w' := wr) rfl (by have h := HMOD.out; go_simp) ?_
          simp only [Act.put, List.setIfInBounds_toArray, List.set_cons_zero, List.set_cons_succ]
          refine wpList_run (v := .slice (some ⟨b, off, none⟩) len1 cap1) rfl (exec_move rfl rfl) ?_
          simp only [Act.put, List.setIfInBounds_toArray, List.set_cons_zero, List.set_cons_succ]
          refine wpList_run (v := .int .i64 (k : Int)) rfl (exec_move rfl rfl) ?_
          simp only [Act.put, List.setIfInBounds_toArray, List.set_cons_zero, List.set_cons_succ]
          refine wpList_run (v := .pointer (some ⟨b, off + k, none⟩)) (w' := wr) rfl (gx_iaddr (off := off) (n := len1) (c := cap1) (i := k) (sz := 1) (k := .i64) rfl rfl rfl Try.underlying36 info_byte HKL.out (by omega)) ?_
          simp only [Act.put, List.setIfInBounds_toArray, List.set_cons_zero, List.set_cons_succ]
          refine wpList_run (v := .int .u8 (c.toNat : Int)) (w' := wr) rfl (exec_load1 rfl rfl (by kernel_rfl) HCW.out) ?_
          simp only [Act.put, List.setIfInBounds_toArray, List.set_cons_zero, List.set_cons_succ]
          go_wp2_with fail
          refine (full_walk c _).mono ?_
          rintro e w4 ⟨g4, rfl, hz4, hb4, ht4⟩
          have HS := Lib.hid (HS.out.still ht4)
          have HB := Lib.hid (HB.out.turn ht4 fun e => e)
          have HB4 := Lib.hid hb4
          have HT4 := Lib.hid ht4
          clear hb4 hz4 ht4
          go_wp2_with fail
          obtain ⟨d, hd, hdn⟩ := HI.out.disk
          refine (st_write HS.out 0 (dev := 0) rfl d hd HI.out.on _ (by rw [hdn]; omega) (by rw [HI.out.fuse]; decide) (fullS c) HB4.out (by have := HKL.out; have := HLEN.out; omega)).mono ?_
          rintro e w5 ⟨rfl, hs5, ht5⟩
          have HB := Lib.hid (blk_kept HB.out ht5 (by rw [HL.out]; exact .inr rfl))
          have hI2 := HI.out.put hd (b := fullS c) (by rw [HC.out]) (place := (q : Int) % 16) (by rw [← HQ.out]; omega)
          have HS := Lib.hid hs5
          have HI2 := Lib.hid hI2
          clear hs5 hI2 ht5 hd hdn
          generalize s.put 0 d ((q : Int) % 16) (fullS c) = s' at *
          go_wp2_with fail
          go_roundg (gk - 1)
          case measure => have := HK.out; have := HKL.out; omega
          case rel => exact ⟨k + 1, s', by have := HK.out; have := HKL.out; omega, by go_num, HI2.out, HS.out, HB.out⟩
        · have hke : k = len1 := by have := HK.out; omega
          have z1 : ¬ (k : Int) < (len1 : Int) := by omega
          have z2 : decide (k < len1) = false := decide_eq_false hlt
          have z3 : decide ((k : Int) < (len1 : Int)) = false := decide_eq_false z1
          subst hke
          clear hlt HK
          go_upto_region 18 with fail
          clear z1 z2 z3
          have HF := Lib.hid (Fam.start (P := fun _ => p) (S := fun _ => s) HS.out rfl rfl)
          go_wp2_with fail
          refine (HF.out.clone (i := 0) (by omega) (by have := HLEN.out; omega)).mono ?_
          rintro e w6 ⟨q, rfl, hf, ht⟩
          have HB := Lib.hid (HB.out.turn ht fun e => e)
          have HF := Lib.hid (hf (p3 p q 0) (p3 s s s) rfl rfl (fun j hj => by
            have hj2 : j = 0 := by omega
            subst hj2
            rfl) (fun j hj => by
            have hj2 : j = 0 := by omega
            subst hj2
            rfl))
          clear hf ht
          obtain ⟨X, hX⟩ : ∃ X, X = s.boot z2 := ⟨_, rfl⟩
          obtain ⟨Y, hY⟩ : ∃ Y, Y = s.boot [] := ⟨_, rfl⟩
          have hx := HI.out.boot z2
          have hy := HI.out.bootNil
          rw [← hX] at hx
          rw [← hY] at hy
          obtain ⟨hxo, dx, hdx, hnx, hrx⟩ := hx
          obtain ⟨hyo, dy, hdy, hny, hry⟩ := hy
          have HX := Lib.hid hX
          have HY := Lib.hid hY
          have HXD := Lib.hid (And.intro hxo (And.intro hdx (And.intro hnx hrx)))
          have HYD := Lib.hid (And.intro hyo (And.intro hdy (And.intro hny hry)))
          clear hX hY hxo hdx hnx hrx hyo hdy hny hry
          go_upto_region 21 with fail
          go_wp2_with fail
          refine (fam_boot_arg HF.out (i := 0) (by omega) rfl HZ2.out (by have := HLEN.out; omega)).mono ?_
          rintro e w7 ⟨rfl, hf, ht⟩
          have HB := Lib.hid (blk_kept HB.out ht (by rw [HL.out]; exact .inr rfl))
          have HF := Lib.hid (hf (p3 X s s) HX.out (fun j hj hji => by
            have hj2 : j = 1 := by omega
            subst hj2
            rfl))
          clear hf ht
          go_wp2_with fail
          refine (fam_boot_nil HF.out (i := 1) (by omega) rfl (by have := HLEN.out; omega)).mono ?_
          rintro e w8 ⟨rfl, hf, ht⟩
          have HB := Lib.hid (blk_kept HB.out ht (by rw [HL.out]; exact .inr rfl))
          have HF := Lib.hid (hf (p3 X Y s) HY.out (fun j hj hji => by
            have hj2 : j = 0 := by omega
            subst hj2
            rfl))
          clear hf ht
          go_upto_region 23 with fail
          go_wp2_with fail
          go_loopg [15] 16 (fun gk i wr => ∃ m : Nat, m + gk = 16 ∧ i = .int .i64 (m : Int) ∧ Turn nowhere w8 wr)
          case atStart => exact ⟨0, rfl, rfl, Turn.refl _ _⟩
          case round =>
            obtain ⟨m, hm, rfl, htq⟩ := hrel
            have HM := Lib.hid hm
            have HFq := Lib.hid (HF.out.still htq)
            have HBq := Lib.hid (HB.out.turn htq fun e => e)
            have HTq := Lib.hid htq
            clear hm htq
            by_cases hj : m < 16
            · have v1 : (m : Int) < 16 := by omega
              have v2 : (0 : Int) ≤ (m : Int) := by omega
              have HJ := Lib.hid hj
              clear hj
              go_wp2_with fail
              refine (fam_read HFq.out (i := 0) (by omega) rfl rfl 0 (dev := 0) rfl dx HXD.out.2.1 HXD.out.1 (m : Int) (by rw [HXD.out.2.2.1]; have := HJ.out; omega) rfl).mono ?_
              rintro e w9 ⟨R1, rfl, hz, hb, ht⟩
              have HR1 := Lib.hid hb
              have HFq := Lib.hid (HFq.out.still ht)
              have HBq := Lib.hid (HBq.out.turn ht fun e => e)
              have HTq := Lib.hid (HTq.out.trans ht fun _ _ e => e)
              clear hz hb ht
              go_wp2_with fail
              refine (fam_read HFq.out (i := 1) (by omega) rfl rfl 0 (dev := 0) rfl dy HYD.out.2.1 HYD.out.1 (m : Int) (by rw [HYD.out.2.2.1]; have := HJ.out; omega) (HYD.out.2.2.2 m HJ.out)).mono ?_
              rintro e w10 ⟨R2, rfl, hz, hb, ht⟩
              have HR1 := Lib.hid (HR1.out.turn ht fun e => e)
              have HR2 := Lib.hid hb
              have HFq := Lib.hid (HFq.out.still ht)
              have HBq := Lib.hid (HBq.out.turn ht fun e => e)
              have HTq := Lib.hid (HTq.out.trans ht fun _ _ e => e)
              clear hz hb ht
              have hxs := HXD.out.2.2.2 m HJ.out
              generalize dx.read (m : Int) = S at *
              obtain ⟨xa, xb, hxa, hxb, hxr⟩ := hxs
              have HXA := Lib.hid (And.intro (mayB_of hxa) (mayB_of hxb))
              have HXR := Lib.hid hxr
              clear hxa hxb hxr
              have hco := cell_of (n := 0) HBq.out (m := m) (by rw [HOL.out]; exact HJ.out)
              obtain ⟨c, hc⟩ : ∃ c, c = old.getD m 0 := ⟨_, rfl⟩
              rw [← hc] at hco HR2
              have HC := Lib.hid hc
              clear hc
              go_upto_region 28 with fail
              have hS0 : KsS gb m R2 c w10.drew := ⟨hco, HR2.out⟩
              clear hco
              refine wp_region_alw (KsS gb m R2 c) (by kernel_rfl) ?_
              refine alw_take (i := 0) (v := .int .i64 0) rfl (by kernel_rfl) (by kernel_rfl) (fun _ _ _ h => h) (.inl ⟨by rfl, fun W hW => exec_move rfl rfl⟩) hS0 ?_
              simp only [Act.put, List.setIfInBounds_toArray, List.set_cons_zero, List.set_cons_succ]
              refine alw_take (i := 1) (v := .bool false) rfl (by kernel_rfl) (by kernel_rfl) (fun _ _ _ h => h) (.inl ⟨by rfl, fun W hW => by go_simp⟩) hS0 ?_
              simp only [Act.put, List.setIfInBounds_toArray, List.set_cons_zero, List.set_cons_succ]
              refine alw_take (i := 2) (v := .bool false) rfl (by kernel_rfl) (by kernel_rfl) (fun _ _ _ h => h) (.inl ⟨by rfl, fun W hW => by go_simp⟩) hS0 ?_
              simp only [Act.put, List.setIfInBounds_toArray, List.set_cons_zero, List.set_cons_succ]
              refine alw_take (i := 3) (v := .int .i64 0) rfl (by kernel_rfl) (by kernel_rfl) (fun _ _ _ h => h) (.inl ⟨by rfl, fun W hW => exec_move rfl rfl⟩) hS0 ?_
              simp only [Act.put, List.setIfInBounds_toArray, List.set_cons_zero, List.set_cons_succ]
              refine alw_take (i := 4) (v := .bool false) rfl (by kernel_rfl) (by kernel_rfl) (fun _ _ _ h => h) (.inl ⟨by rfl, fun W hW => by go_simp⟩) hS0 ?_
              simp only [Act.put, List.setIfInBounds_toArray, List.set_cons_zero, List.set_cons_succ]
              refine alw_take (i := 5) (v := .bool false) rfl (by kernel_rfl) (by kernel_rfl) (fun _ _ _ h => h) (.inl ⟨by rfl, fun W hW => by go_simp⟩) hS0 ?_
              simp only [Act.put, List.setIfInBounds_toArray, List.set_cons_zero, List.set_cons_succ]
              refine alw_take (i := 6) (v := .bool false) rfl (by kernel_rfl) (by kernel_rfl) (fun _ _ _ h => h) (.inl ⟨by rfl, fun W hW => by go_simp⟩) hS0 ?_
              simp only [Act.put, List.setIfInBounds_toArray, List.set_cons_zero, List.set_cons_succ]
              refine alw_take (i := 7) (v := .slice (some ⟨R2, 0, none⟩) 64 64) rfl (by kernel_rfl) (by kernel_rfl) (fun _ _ _ h => h) (.inl ⟨by rfl, fun W hW => exec_move rfl rfl⟩) hS0 ?_
              simp only [Act.put, List.setIfInBounds_toArray, List.set_cons_zero, List.set_cons_succ]
              refine alw_take (i := 8) (v := strV (fullS c).1) rfl (by kernel_rfl) (by kernel_rfl) (fun _ _ _ h => h) (.inl ⟨by rfl, fun W hW => exec_str rfl rfl (fullS c).2 (range_blk hW.2)⟩) hS0 ?_
              simp only [Act.put, List.setIfInBounds_toArray, List.set_cons_zero, List.set_cons_succ]
              refine alw_take (i := 9) (v := .slice (some ⟨gb, 0, none⟩) 16 16) rfl (by kernel_rfl) (by kernel_rfl) (fun _ _ _ h => h) (.inl ⟨by rfl, fun W hW => exec_move rfl rfl⟩) hS0 ?_
              simp only [Act.put, List.setIfInBounds_toArray, List.set_cons_zero, List.set_cons_succ]
              refine alw_take (i := 10) (v := .int .i64 (m : Int)) rfl (by kernel_rfl) (by kernel_rfl) (fun _ _ _ h => h) (.inl ⟨by rfl, fun W hW => exec_move rfl rfl⟩) hS0 ?_
              simp only [Act.put, List.setIfInBounds_toArray, List.set_cons_zero, List.set_cons_succ]
              refine alw_take (i := 11) (v := .pointer (some ⟨gb, m, none⟩)) rfl (by kernel_rfl) (by kernel_rfl) (fun _ _ _ h => h) (.inl ⟨by rfl, fun W hW => gx_iaddr (off := 0) (n := 16) (c := 16) (i := m) (sz := 1) (k := .i64) rfl rfl rfl Try.underlying36 info_byte HJ.out (by omega)⟩) hS0 ?_
              simp only [Act.put, List.setIfInBounds_toArray, List.set_cons_zero, List.set_cons_succ]
              refine alw_take (i := 12) (v := .int .u8 (c.toNat : Int)) rfl (by kernel_rfl) (by kernel_rfl) (fun _ _ _ h => h) (.inl ⟨by rfl, fun W hW => exec_load1 rfl rfl (by kernel_rfl) hW.1⟩) hS0 ?_
              simp only [Act.put, List.setIfInBounds_toArray, List.set_cons_zero, List.set_cons_succ]
              refine alw_step (i := 13) (by kernel_rfl) rfl rfl ?_
              intro K1 HK1
              go_wp2_with fail
              refine (full_walk c _).mono ?_
              rintro e w11 ⟨g4, rfl, hz4, hb4, ht4⟩
              have hS1 : KsS gb m R2 c w11 := ⟨by
                show w11.cell? ⟨gb, m, none⟩ = _
                rw [ht4.cell (p := ⟨gb, m, none⟩) HBq.out.lt (fun e => e)]
                exact hS0.1, Blk.turn hS0.2 ht4 fun e => e⟩
              refine HK1.out _ _ ⟨hS1, ?_⟩
              clear HK1
              refine alw_mono (S' := fun V => KsS gb m R2 c V ∧ Blk V g4 5 (bcs (fullS c).1).toArray) (fun V hV => hV.1) _ _ _ _ ?_
              have hS2 : KsS gb m R2 c w11 ∧ Blk w11 g4 5 (bcs (fullS c).1).toArray := ⟨hS1, hb4⟩
              have ht4' : Turn nowhere w10 w11 := (Turn.refl nowhere w10).drew.trans ht4 fun _ _ e => e
              have HFq := Lib.hid (HFq.out.still ht4')
              have HBq := Lib.hid (HBq.out.turn ht4' fun e => e)
              have HTq := Lib.hid (HTq.out.trans ht4' fun _ _ e => e)
              have HR1 := Lib.hid (HR1.out.turn ht4' fun e => e)
              clear ht4' hS0 hS1 ht4 hz4
              refine alw_take (i := 14) (v := strV (fullS c).1) rfl (by kernel_rfl) (by kernel_rfl) (fun _ _ _ h => h) (.inl ⟨by rfl, fun W hW => exec_str rfl rfl (fullS c).2 (range_blk hW.2)⟩) hS2 ?_
              simp only [Act.put, List.setIfInBounds_toArray, List.set_cons_zero, List.set_cons_succ]
              refine alw_take (i := 15) (v := .bool false) rfl (by kernel_rfl) (by kernel_rfl) (fun _ _ _ h => h) (.inl ⟨by rfl, fun W hW => (exec_sneqp (l := (fullS c).1) (m := (fullS c).1) rfl rfl rfl).trans (by simp)⟩) hS2 ?_
              simp only [Act.put, List.setIfInBounds_toArray, List.set_cons_zero, List.set_cons_succ]
              refine alw_take (i := 16) (v := .bool false) rfl (by kernel_rfl) (by kernel_rfl) (fun _ _ _ h => h) (.inl ⟨by rfl, fun W hW => by go_simp⟩) hS2 ?_
              simp only [Act.put, List.setIfInBounds_toArray, List.set_cons_zero, List.set_cons_succ]
              refine alw_take (i := 17) (v := .bool false) rfl (by kernel_rfl) (by kernel_rfl) (fun _ _ _ h => h) (.inl ⟨by rfl, fun W hW => by go_simp⟩) hS2 ?_
              simp only [Act.put, List.setIfInBounds_toArray, List.set_cons_zero, List.set_cons_succ]
              refine alw_take (i := 18) (v := .slice (some ⟨R1, 0, none⟩) 64 64) rfl (by kernel_rfl) (by kernel_rfl) (fun _ _ _ h => h) (.inl ⟨by rfl, fun W hW => exec_move rfl rfl⟩) hS2 ?_
              simp only [Act.put, List.setIfInBounds_toArray, List.set_cons_zero, List.set_cons_succ]
              refine alw_take (i := 19) (v := .int .i64 64) rfl (by kernel_rfl) (by kernel_rfl) (fun _ _ _ h => h) (.inl ⟨by rfl, fun W hW => gx_len rfl rfl Try.underlying36⟩) hS2 ?_
              simp only [Act.put, List.setIfInBounds_toArray, List.set_cons_zero, List.set_cons_succ]
              refine alw_take (i := 20) (v := .bool false) rfl (by kernel_rfl) (by kernel_rfl) (fun _ _ _ h => h) (.inl ⟨by rfl, fun W hW => by go_simp⟩) hS2 ?_
              simp only [Act.put, List.setIfInBounds_toArray, List.set_cons_zero, List.set_cons_succ]
              refine alw_take (i := 21) (v := .bool false) rfl (by kernel_rfl) (by kernel_rfl) (fun _ _ _ h => h) (.inl ⟨by rfl, fun W hW => by go_simp⟩) hS2 ?_
              simp only [Act.put, List.setIfInBounds_toArray, List.set_cons_zero, List.set_cons_succ]
              refine alw_done (by kernel_rfl) ?_
              clear hS2
              clear hb4
              refine NoPanic.normal ?_
              go_wp2_with fail
              go_loopg [20] 2 (fun gk i wr => ∃ h : Nat, h + gk = 2 ∧ i = .int .i64 (h : Int) ∧ Turn nowhere w11 wr)
              case atStart => exact ⟨0, rfl, rfl, Turn.refl _ _⟩
              case round =>
                obtain ⟨h, hh, rfl, htr⟩ := hrel
                have HH := Lib.hid hh
                have HFr := Lib.hid (HFq.out.still htr)
                have HBr := Lib.hid (HBq.out.turn htr fun e => e)
                have HTr := Lib.hid htr
                have HRr := Lib.hid (HR1.out.turn htr fun e => e)
                clear hh htr
                by_cases hj2 : h < 2
                · have u1 : (h : Int) < 2 := by omega
                  have HJ2 := Lib.hid hj2
                  clear hj2
                  obtain ⟨o, ho⟩ : ∃ o, o = 32 * h := ⟨_, rfl⟩
                  have HO := Lib.hid ho
                  clear ho
                  have hxc := half_cell HRr.out HXR.out HJ2.out HO.out
                  have hcc := cell_of (n := 0) HBr.out (m := m) (by rw [HOL.out]; exact HJ.out)
                  rw [← HC.out] at hcc
                  have hmx := mayB_ab (h := h) HXA.out
                  obtain ⟨x, hx⟩ : ∃ x, x = abOf h xa xb := ⟨_, rfl⟩
                  rw [← hx] at hxc hmx
                  have HX8 := Lib.hid hx
                  have HXC := Lib.hid hxc
                  have HCC := Lib.hid hcc
                  have HMX := Lib.hid hmx
                  clear hx hxc hcc hmx
                  go_upto_region 33 with fail
                  refine wp_region_lit ?_
                  refine wpList_run (v := .slice (some ⟨R1, 0, none⟩) 64 64) rfl (exec_move rfl rfl) ?_
                  simp only [Act.put, List.setIfInBounds_toArray, List.set_cons_zero, List.set_cons_succ]
                  refine wpList_run (v := .int .i64 (h : Int)) rfl (exec_move rfl rfl) ?_
                  simp only [Act.put, List.setIfInBounds_toArray, List.set_cons_zero, List.set_cons_succ]
                  refine wpList_run (v := .int .i64 (o : Int)) (w' := wr) rfl (exec_mul32 rfl rfl HO.out (by have := HJ2.out; omega)) ?_
                  simp only [Act.put, List.setIfInBounds_toArray, List.set_cons_zero, List.set_cons_succ]
                  refine wpList_run (v := .pointer (some ⟨R1, o, none⟩)) (w' := wr) rfl (gx_iaddr (off := 0) (n := 64) (c := 64) (i := o) (sz := 1) (k := .i64) rfl rfl rfl Try.underlying36 info_byte (by have := HJ2.out; have := HO.out; omega) (by omega)) ?_
                  simp only [Act.put, List.setIfInBounds_toArray, List.set_cons_zero, List.set_cons_succ]
                  refine wpList_run (v := .int .u8 (x.toNat : Int)) (w' := wr) rfl (exec_load1 rfl rfl (by kernel_rfl) HXC.out) ?_
                  simp only [Act.put, List.setIfInBounds_toArray, List.set_cons_zero, List.set_cons_succ]
                  refine wpList_run (v := .int .u8 (x.toNat : Int)) rfl (gx_assign rfl rfl) ?_
                  simp only [Act.put, List.setIfInBounds_toArray, List.set_cons_zero, List.set_cons_succ]
                  go_upto_region 34 with fail
                  refine wp_region_lit ?_
                  refine wpList_run (v := .int .u8 (x.toNat : Int)) rfl (exec_move rfl rfl) ?_
                  simp only [Act.put, List.setIfInBounds_toArray, List.set_cons_zero, List.set_cons_succ]
                  refine wpList_run (v := .slice (some ⟨gb, 0, none⟩) 16 16) rfl (exec_move rfl rfl) ?_
                  simp only [Act.put, List.setIfInBounds_toArray, List.set_cons_zero, List.set_cons_succ]
                  refine wpList_run (v := .int .i64 (m : Int)) rfl (exec_move rfl rfl) ?_
                  simp only [Act.put, List.setIfInBounds_toArray, List.set_cons_zero, List.set_cons_succ]
                  refine wpList_run (v := .pointer (some ⟨gb, m, none⟩)) (w' := wr) rfl (gx_iaddr (off := 0) (n := 16) (c := 16) (i := m) (sz := 1) (k := .i64) rfl rfl rfl Try.underlying36 info_byte HJ.out (by omega)) ?_
                  simp only [Act.put, List.setIfInBounds_toArray, List.set_cons_zero, List.set_cons_succ]
                  refine wpList_run (v := .int .u8 (c.toNat : Int)) (w' := wr) rfl (exec_load1 rfl rfl (by kernel_rfl) HCC.out) ?_
                  simp only [Act.put, List.setIfInBounds_toArray, List.set_cons_zero, List.set_cons_succ]
                  refine wpList_run (v := .bool (x == c)) (w' := wr) rfl (exec_beq8 rfl rfl rfl) ?_
                  simp only [Act.put, List.setIfInBounds_toArray, List.set_cons_zero, List.set_cons_succ]
                  refine wpList_run (v := .bool (x == c)) rfl (gx_assign rfl rfl) ?_
                  simp only [Act.put, List.setIfInBounds_toArray, List.set_cons_zero, List.set_cons_succ]
                  go_upto_region 35 with fail
                  go_wp2_with fail
                  go_loopg [22, 23] k (fun gk a i wq => ∃ j : Nat, j + gk = k ∧ a = .bool (mayB old z1 m x j) ∧ i = .int .i64 (j : Int) ∧ Turn nowhere wr wq)
                  case atStart => exact ⟨0, by omega, by rw [HC.out]; rfl, rfl, Turn.refl _ _⟩
                  case round =>
                    obtain ⟨j, hjk, rfl, rfl, hts⟩ := hrel
                    have HJK := Lib.hid hjk
                    have HTs := Lib.hid hts
                    clear hjk hts
                    by_cases hj3 : j < k
                    · have t1 : (j : Int) < (k : Int) := by omega
                      have t2 : (0 : Int) ≤ (j : Int) := by omega
                      have t5 : (k : Int) ≤ 1048576 := by have := HLEN.out; omega
                      have HJ3 := Lib.hid hj3
                      clear hj3
                      obtain ⟨hl0, hm0, hc0⟩ := HZ1.out
                      obtain ⟨b, off, rfl, hcell⟩ := hc0 (by have := HJ3.out; omega)
                      have hbl : b < W.heap.size := World.block_lt_of_cell? _ _ (hcell j HJ3.out)
                      obtain ⟨y, hy⟩ : ∃ y, y = z1.getD j 0 := ⟨_, rfl⟩
                      have hcw : OfS b (off + j) y wr := by
                        show wr.cell? ⟨b, off + j, none⟩ = _
                        rw [(HFr.out.still HTs.out).tr.cell (p := ⟨b, off + j, none⟩) hbl (fun e => e), hy]
                        exact hcell j HJ3.out
                      have HCW := Lib.hid hcw
                      have HY8 := Lib.hid hy
                      clear hl0 hm0 hc0 hcell hbl hcw hy
                      obtain ⟨q3, hq⟩ : ∃ q3, q3 = 3 * j := ⟨_, rfl⟩
                      have hmod : (q3 : Int).tmod 16 = ((q3 % 16 : Nat) : Int) := by rw [Int.tmod_eq_emod_of_nonneg (by omega)]; omega
                      have HMOD := Lib.hid hmod
                      have HQ := Lib.hid hq
                      clear hmod hq
                      have hstep : mayB old z1 m x (j + 1) = (mayB old z1 m x j || (q3 % 16 == m && x == y)) := by
                        rw [HQ.out, HY8.out]
                        rfl
                      cases hb : mayB old z1 m x j with
                      | true =>
                        rw [hb] at hstep
                        have HST := Lib.hid (show mayB old z1 m x (j + 1) = true by rw [hstep]; rfl)
                        clear hstep hb
                        go_wp2_with fail
                        go_roundg (gk - 1)
                        case measure => have := HJK.out; have := HJ3.out; omega
                        case rel => exact ⟨j + 1, by have := HJK.out; have := HJ3.out; omega, by rw [HST.out], by go_num, HTs.out⟩
                      | false =>
                        rw [hb] at hstep
                        clear hb
                        by_cases he : q3 % 16 = m
                        · have HST := Lib.hid (show mayB old z1 m x (j + 1) = (x == y) by rw [hstep, he]; simp)
                          clear hstep
                          have HE := Lib.hid he
                          clear he
                          go_upto_region 38 with fail
                          refine wp_region_lit ?_
                          refine wpList_run (v := .bool false) rfl (exec_move rfl rfl) ?_
                          simp only [Act.put, List.setIfInBounds_toArray, List.set_cons_zero, List.set_cons_succ]
                          refine wpList_run (v := .bool false) rfl (exec_move rfl rfl) ?_
                          simp only [Act.put, List.setIfInBounds_toArray, List.set_cons_zero, List.set_cons_succ]
                          refine wpList_run (v := .int .i64 (j : Int)) rfl (exec_move rfl rfl) ?_
                          simp only [Act.put, List.setIfInBounds_toArray, List.set_cons_zero, List.set_cons_succ]
                          refine wpList_run (v := .int .i64 (q3 : Int)) (w' := wr) rfl (exec_mul3 rfl rfl HQ.out (by have := HJ3.out; have := HLEN.out; omega)) ?_
                          simp only [Act.put, List.setIfInBounds_toArray, List.set_cons_zero, List.set_cons_succ]
                          refine wpList_run (v := .int .i64 ((q3 % 16 : Nat) : Int)) (w' := wr) rfl (by have h := HMOD.out; go_simp) ?_
                          simp only [Act.put, List.setIfInBounds_toArray, List.set_cons_zero, List.set_cons_succ]
                          refine wpList_run (v := .int .i64 (m : Int)) rfl (exec_move rfl rfl) ?_
                          simp only [Act.put, List.setIfInBounds_toArray, List.set_cons_zero, List.set_cons_succ]
                          refine wpList_run (v := .bool true) (w' := wr) rfl (by have h := HE.out; go_simp) ?_
                          simp only [Act.put, List.setIfInBounds_toArray, List.set_cons_zero, List.set_cons_succ]
                          refine wpList_run (v := .bool true) rfl (exec_move rfl rfl) ?_
                          simp only [Act.put, List.setIfInBounds_toArray, List.set_cons_zero, List.set_cons_succ]
                          refine wpList_run (v := .int .u8 (x.toNat : Int)) rfl (exec_move rfl rfl) ?_
                          simp only [Act.put, List.setIfInBounds_toArray, List.set_cons_zero, List.set_cons_succ]
                          refine wpList_run (v := .slice (some ⟨b, off, none⟩) k cap1) rfl (exec_move rfl rfl) ?_
                          simp only [Act.put, List.setIfInBounds_toArray, List.set_cons_zero, List.set_cons_succ]
                          refine wpList_run (v := .int .i64 (j : Int)) rfl (exec_move rfl rfl) ?_
                          simp only [Act.put, List.setIfInBounds_toArray, List.set_cons_zero, List.set_cons_succ]
                          refine wpList_run (v := .pointer (some ⟨b, off + j, none⟩)) (w' := wr) rfl (gx_iaddr (off := off) (n := k) (c := cap1) (i := j) (sz := 1) (k := .i64) rfl rfl rfl Try.underlying36 info_byte HJ3.out (by omega)) ?_
                          simp only [Act.put, List.setIfInBounds_toArray, List.set_cons_zero, List.set_cons_succ]
                          refine wpList_run (v := .int .u8 (y.toNat : Int)) (w' := wr) rfl (exec_load1 rfl rfl (by kernel_rfl) HCW.out) ?_
                          simp only [Act.put, List.setIfInBounds_toArray, List.set_cons_zero, List.set_cons_succ]
                          refine wpList_run (v := .bool (x == y)) (w' := wr) rfl (exec_beq8 rfl rfl rfl) ?_
                          simp only [Act.put, List.setIfInBounds_toArray, List.set_cons_zero, List.set_cons_succ]
                          go_wp2_with fail
                          go_roundg (gk - 1)
                          case measure => have := HJK.out; have := HJ3.out; omega
                          case rel => exact ⟨j + 1, by have := HJK.out; have := HJ3.out; omega, by rw [HST.out], by go_num, HTs.out⟩
                        · have HST := Lib.hid (show mayB old z1 m x (j + 1) = false by
                            have h2 : (q3 % 16 == m) = false := by simp [he]
                            rw [hstep, h2]
                            rfl)
                          clear hstep
                          have HE := Lib.hid he
                          clear he
                          go_upto_region 38 with fail
                          refine wp_region_lit ?_
                          refine wpList_run (v := .bool false) rfl (exec_move rfl rfl) ?_
                          simp only [Act.put, List.setIfInBounds_toArray, List.set_cons_zero, List.set_cons_succ]
                          refine wpList_run (v := .bool false) rfl (exec_move rfl rfl) ?_
                          simp only [Act.put, List.setIfInBounds_toArray, List.set_cons_zero, List.set_cons_succ]
                          refine wpList_run (v := .int .i64 (j : Int)) rfl (exec_move rfl rfl) ?_
                          simp only [Act.put, List.setIfInBounds_toArray, List.set_cons_zero, List.set_cons_succ]
                          refine wpList_run (v := .int .i64 (q3 : Int)) (w' := wr) rfl (exec_mul3 rfl rfl HQ.out (by have := HJ3.out; have := HLEN.out; omega)) ?_
                          simp only [Act.put, List.setIfInBounds_toArray, List.set_cons_zero, List.set_cons_succ]
                          refine wpList_run (v := .int .i64 ((q3 % 16 : Nat) : Int)) (w' := wr) rfl (by have h := HMOD.out; go_simp) ?_
                          simp only [Act.put, List.setIfInBounds_toArray, List.set_cons_zero, List.set_cons_succ]
                          refine wpList_run (v := .int .i64 (m : Int)) rfl (exec_move rfl rfl) ?_
                          simp only [Act.put, List.setIfInBounds_toArray, List.set_cons_zero, List.set_cons_succ]
                          refine wpList_run (v := .bool false) (w' := wr) rfl (by have h := HE.out; go_simp; omega) ?_
                          simp only [Act.put, List.setIfInBounds_toArray, List.set_cons_zero, List.set_cons_succ]
                          go_wp2_with fail
                          go_roundg (gk - 1)
                          case measure => have := HJK.out; have := HJ3.out; omega
                          case rel => exact ⟨j + 1, by have := HJK.out; have := HJ3.out; omega, by rw [HST.out], by go_num, HTs.out⟩
                    · have hke : j = k := by have := HJK.out; omega
                      have t1 : ¬ (j : Int) < (k : Int) := by omega
                      have t2 : decide ((j : Int) < (k : Int)) = false := decide_eq_false t1
                      subst hke
                      rw [HMX.out]
                      have HRq := Lib.hid (HRr.out.turn HTs.out fun e => e)
                      have hrng : ∀ V : World, Blk V R1 66 (bcs S.1).toArray → V.rangeAt R1 o (bcs (List.replicate 32 x)) := fun V hb => by
                        rw [HX8.out]
                        exact half_rng hb HXR.out HJ2.out HO.out
                      have HRNG := Lib.hid hrng
                      clear hrng
                      go_upto_region 39 with fail
                      clear t1 t2
                      have hS0 : Blk wr.drew R1 66 (bcs S.1).toArray := HRq.out
                      refine wp_region_alw (fun V => Blk V R1 66 (bcs S.1).toArray) (by kernel_rfl) ?_
                      refine alw_take (i := 0) (v := .bool true) rfl (by kernel_rfl) (by kernel_rfl) (fun _ _ _ h => h) (.inl ⟨by rfl, fun W hW => exec_move rfl rfl⟩) hS0 ?_
                      simp only [Act.put, List.setIfInBounds_toArray, List.set_cons_zero, List.set_cons_succ]
                      refine alw_take (i := 1) (v := .bool false) rfl (by kernel_rfl) (by kernel_rfl) (fun _ _ _ h => h) (.inl ⟨by rfl, fun W hW => by go_simp⟩) hS0 ?_
                      simp only [Act.put, List.setIfInBounds_toArray, List.set_cons_zero, List.set_cons_succ]
                      refine alw_take (i := 2) (v := .bool false) rfl (by kernel_rfl) (by kernel_rfl) (fun _ _ _ h => h) (.inl ⟨by rfl, fun W hW => exec_move rfl rfl⟩) hS0 ?_
                      simp only [Act.put, List.setIfInBounds_toArray, List.set_cons_zero, List.set_cons_succ]
                      refine alw_take (i := 3) (v := .slice (some ⟨R1, 0, none⟩) 64 64) rfl (by kernel_rfl) (by kernel_rfl) (fun _ _ _ h => h) (.inl ⟨by rfl, fun W hW => exec_move rfl rfl⟩) hS0 ?_
                      simp only [Act.put, List.setIfInBounds_toArray, List.set_cons_zero, List.set_cons_succ]
                      refine alw_take (i := 4) (v := .int .i64 (h : Int)) rfl (by kernel_rfl) (by kernel_rfl) (fun _ _ _ h => h) (.inl ⟨by rfl, fun W hW => exec_move rfl rfl⟩) hS0 ?_
                      simp only [Act.put, List.setIfInBounds_toArray, List.set_cons_zero, List.set_cons_succ]
                      refine alw_take (i := 5) (v := .int .i64 (o : Int)) rfl (by kernel_rfl) (by kernel_rfl) (fun _ _ _ h => h) (.inl ⟨by rfl, fun W hW => exec_mul32 rfl rfl HO.out (by have := HJ2.out; omega)⟩) hS0 ?_
                      simp only [Act.put, List.setIfInBounds_toArray, List.set_cons_zero, List.set_cons_succ]
                      refine alw_take (i := 6) (v := .int .i64 (h : Int)) rfl (by kernel_rfl) (by kernel_rfl) (fun _ _ _ h => h) (.inl ⟨by rfl, fun W hW => exec_move rfl rfl⟩) hS0 ?_
                      simp only [Act.put, List.setIfInBounds_toArray, List.set_cons_zero, List.set_cons_succ]
                      refine alw_take (i := 7) (v := .int .i64 (o : Int)) rfl (by kernel_rfl) (by kernel_rfl) (fun _ _ _ h => h) (.inl ⟨by rfl, fun W hW => exec_mul32 rfl rfl HO.out (by have := HJ2.out; omega)⟩) hS0 ?_
                      simp only [Act.put, List.setIfInBounds_toArray, List.set_cons_zero, List.set_cons_succ]
                      refine alw_take (i := 8) (v := .int .i64 ((o + 32 : Nat) : Int)) rfl (by kernel_rfl) (by kernel_rfl) (fun _ _ _ h => h) (.inl ⟨by rfl, fun W hW => exec_add32 rfl rfl (by have := HO.out; have := HJ2.out; omega)⟩) hS0 ?_
                      simp only [Act.put, List.setIfInBounds_toArray, List.set_cons_zero, List.set_cons_succ]
                      refine alw_take (i := 9) (v := .slice (some ⟨R1, o, none⟩) 32 (64 - o)) rfl (by kernel_rfl) (by kernel_rfl) (fun _ _ _ h => h) (.inl ⟨by rfl, fun W hW => exec_slice rfl rfl rfl rfl rfl (slice_half _ _ _ HJ2.out HO.out _)⟩) hS0 ?_
                      simp only [Act.put, List.setIfInBounds_toArray, List.set_cons_zero, List.set_cons_succ]
                      refine alw_take (i := 10) (v := strV (List.replicate 32 x)) rfl (by kernel_rfl) (by kernel_rfl) (fun _ _ _ h => h) (.inl ⟨by rfl, fun W hW => exec_str rfl rfl (by simp) (HRNG.out _ hW)⟩) hS0 ?_
                      simp only [Act.put, List.setIfInBounds_toArray, List.set_cons_zero, List.set_cons_succ]
                      refine alw_take (i := 11) (v := .int .u8 (x.toNat : Int)) rfl (by kernel_rfl) (by kernel_rfl) (fun _ _ _ h => h) (.inl ⟨by rfl, fun W hW => exec_move rfl rfl⟩) hS0 ?_
                      simp only [Act.put, List.setIfInBounds_toArray, List.set_cons_zero, List.set_cons_succ]
                      refine alw_step (i := 12) (by kernel_rfl) rfl rfl ?_
                      intro K1 HK1
                      go_wp2_with fail
                      refine (full_walk x _).mono ?_
                      rintro e w12 ⟨g4, rfl, hz4, hb4, ht4⟩
                      refine HK1.out _ _ ⟨Blk.turn (F := nowhere) hS0 ht4 (fun e => e), ?_⟩
                      clear HK1
                      refine alw_mono (S' := fun V => Blk V R1 66 (bcs S.1).toArray ∧ Blk V g4 5 (bcs (fullS x).1).toArray) (fun V hV => hV.1) _ _ _ _ ?_
                      have hS2 : Blk w12 R1 66 (bcs S.1).toArray ∧ Blk w12 g4 5 (bcs (fullS x).1).toArray := ⟨Blk.turn (F := nowhere) hS0 ht4 (fun e => e), hb4⟩
                      have ht4' : Turn nowhere wr w12 := (Turn.refl nowhere wr).drew.trans ht4 fun _ _ e => e
                      have HTs := Lib.hid (HTs.out.trans ht4' fun _ _ e => e)
                      clear ht4' hS0 ht4 hz4 hb4
                      refine alw_take (i := 13) (v := .slice (some ⟨g4, 0, none⟩) 32 64) rfl (by kernel_rfl) (by kernel_rfl) (fun _ _ _ h => h) (.inl ⟨by rfl, fun W hW => exec_slice rfl rfl rfl rfl rfl (slice_to _ _)⟩) hS2 ?_
                      simp only [Act.put, List.setIfInBounds_toArray, List.set_cons_zero, List.set_cons_succ]
                      refine alw_take (i := 14) (v := strV ((fullS x).1.take 32)) rfl (by kernel_rfl) (by kernel_rfl) (fun _ _ _ h => h) (.inl ⟨by rfl, fun W hW => exec_str rfl rfl (by have := (fullS x).2; simp; omega) (rng_to hW.2 32)⟩) hS2 ?_
                      simp only [Act.put, List.setIfInBounds_toArray, List.set_cons_zero, List.set_cons_succ]
                      refine alw_take (i := 15) (v := .bool false) rfl (by kernel_rfl) (by kernel_rfl) (fun _ _ _ h => h) (.inl ⟨by rfl, fun W hW => (exec_sneqp (l := List.replicate 32 x) (m := (fullS x).1.take 32) rfl rfl rfl).trans (by rw [full_take]; simp)⟩) hS2 ?_
                      simp only [Act.put, List.setIfInBounds_toArray, List.set_cons_zero, List.set_cons_succ]
                      refine alw_take (i := 16) (v := .bool false) rfl (by kernel_rfl) (by kernel_rfl) (fun _ _ _ h => h) (.inl ⟨by rfl, fun W hW => by go_simp⟩) hS2 ?_
                      simp only [Act.put, List.setIfInBounds_toArray, List.set_cons_zero, List.set_cons_succ]
                      refine alw_done (by kernel_rfl) ?_
                      clear hS2
                      refine NoPanic.normal ?_
                      go_wp2_with fail
                      go_roundg (1 - h)
                      case measure => have := HH.out; have := HJ2.out; omega
                      case rel => exact ⟨h + 1, by have := HH.out; have := HJ2.out; omega, by go_num, HTr.out.trans HTs.out fun _ _ e => e⟩
                · have v1 : ¬ (h : Int) < 2 := by omega
                  clear hj2
                  go_wp2_with fail
                  go_roundg (15 - m)
                  case measure => have := HM.out; have := HJ.out; omega
                  case rel => exact ⟨m + 1, by have := HM.out; have := HJ.out; omega, by go_num, HTq.out.trans HTr.out fun _ _ e => e⟩
            · have v1 : ¬ (m : Int) < 16 := by omega
              have HTT := Lib.hid HFq.out.tr
              clear hj
              go_upto_region 41 with fail
              go_wp2_with fail
              go_ret
              exact ⟨rfl, HTT.out.below (Nat.le_refl _) (fun _ _ e => e)⟩
end Go.Proofs.Ytgdlidjjogoiaaa
