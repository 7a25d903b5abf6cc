/-
  groatlaw03's PlantHalves, walked
-/
import Derived.Test.YtgdlidjjogoiaaaPlFm
namespace Go.Proofs.Ytgdlidjjogoiaaa
open Go.RowKit Go.Maps
set_option linter.unusedVariables false
theorem make64 (W : World) : (Instr.makeSlice 36 (.int .i64 64) (.int .i64 64)).run Try.prog W = .ok (.slice (some ⟨W.heap.size, 0, none⟩) 64 64) (W.alloc (.cells (bcs zeroSec.1).toArray 5)) := by kernel_rfl
section
variable {w0 w : World} {L : Nat → Prop} {n K : Nat} {P : Nat → Nat} {S : Nat → AP}
theorem kept_mono {L L' : Nat → Prop} {w w' : World} (h : ∀ k, L k → L' k) (ht : Turn (kept L') w w') : Turn (kept L) w w' := ht.mono fun k _ hk hl => hk (h k hl)
theorem fam_boot (h : Fam w0 L w n P S K) {i : Nat} (hi : i < n) {pp : Nat} (hP : P i = pp) (zs : List Int) {g c m : Nat} {t : TypeId} (hb : Blk w g t (intsC zs)) (hg : L g) (hn : zs.length = m) (hm : m ≤ 100) (hK : K < 1099511627776) :
    Calls Try.prog 21 #[.pointer (some ⟨pp, 0, none⟩), .slice (some ⟨g, 0, none⟩) m c] w fun e w' => e = .returned (.tuple #[]) ∧ (∀ S', S' i = (S i).boot zs → (∀ j, j < n → j ≠ i → S' j = S j) → Fam w0 L w' n P S' K) ∧ Turn (kept L) w w' := by
  obtain ⟨L', h1, h2, h3⟩ := h.at_ hi
  subst hP
  exact (st_boot h2 zs hb (h1 g hg) hn hm hK).mono fun e w' ⟨he, hs, ht⟩ => ⟨he, fun S' e1 e2 => h3 w' _ K S' (Nat.le_refl _) hs ht e1 e2, kept_mono h1 ht⟩
theorem fam_read (h : Fam w0 L w n P S K) {i : Nat} (hi : i < n) {pp : Nat} (hP : P i = pp) {s : AP} (hS : S i = s) (j : Nat) {dev : Int} (hdev : dev = ((j : Nat) : Int)) (d : AD) (hd : s.ds[j]? = some d) (hon : s.on = true) (place : Int) (hp : 0 ≤ place ∧ place < d.n) {X : Sec} (hX : d.read place = X) :
    Calls Try.prog 18 #[.pointer (some ⟨pp, 0, none⟩), .int .i64 dev, .int .i64 place] w fun e w' =>
      ∃ R, e = .returned (.tuple #[.slice (some ⟨R, 0, none⟩) 64 64, .int .i64 0]) ∧ w.heap.size ≤ R ∧ Blk w' R 66 (bcs X.1).toArray ∧ Turn nowhere w w' := by
  obtain ⟨L', h1, h2, h3⟩ := h.at_ hi
  subst hP hX hS
  exact st_read h2 j hdev d hd hon place hp
end
def hvx (A B : Sec) : Sec := ⟨B.1.take 32 ++ A.1.drop 32, by simp [A.2, B.2]⟩
def hvy (A B : Sec) : Sec := ⟨A.1.take 32 ++ B.1.drop 32, by simp [A.2, B.2]⟩
def hv0 : AP := AP.new [3]
def hv1 (A : Sec) : AP := hv0.put 0 (hv0.ds.getD 0 nd) 1 A
def hv2 (A : Sec) : AP := (hv1 A).flushed 0 ((hv1 A).ds.getD 0 nd)
def hv3 (A B : Sec) : AP := (hv2 A).put 0 ((hv2 A).ds.getD 0 nd) 1 B
def hvb (A B : Sec) (z : Int) : AP := (hv3 A B).boot [z]
theorem hvb_def (A B : Sec) (z : Int) : hvb A B z = (hv3 A B).boot [z] := rfl
def hvd (A B : Sec) (z : Int) : AD := (hvb A B z).ds.getD 0 nd
section
variable {A B : Sec} {w0 w : World} {L : Nat → Prop} {p g c : Nat} {t : TypeId}
theorem hvd_at1 : (hvb A B 1).ds[0]? = some (hvd A B 1) := by kernel_rfl
theorem hvd_at2 : (hvb A B 2).ds[0]? = some (hvd A B 2) := by kernel_rfl
theorem hvd_at3 : (hvb A B 3).ds[0]? = some (hvd A B 3) := by kernel_rfl
theorem hvd_n1 : (hvd A B 1).n = 3 := by kernel_rfl
theorem hvd_n2 : (hvd A B 2).n = 3 := by kernel_rfl
theorem hvd_n3 : (hvd A B 3).n = 3 := by kernel_rfl
theorem hvd_r1 : (hvd A B 1).read 1 = B := by kernel_rfl
theorem hvd_r2 : (hvd A B 2).read 1 = hvx A B := by kernel_rfl
theorem hvd_r3 : (hvd A B 3).read 1 = hvy A B := by kernel_rfl
theorem hvb_on (z : Int) : (hvb A B z).on = true := rfl
theorem sizes3 : sizesOk [3] := ⟨by decide, by decide, by decide⟩
theorem hvn (g : Nat) (hb : Blk w g t (intsC [3])) (h0 : Turn nowhere w0 w) : Calls Try.prog 8 #[.slice (some ⟨g, 0, none⟩) 1 1] w fun e w' => ∃ p, e = .returned (.tuple #[.pointer (some ⟨p, 0, none⟩), .int .i64 0]) ∧ St w0 (fun k => k < w0.heap.size) w' p hv0 0 ∧ Turn nowhere w w' :=
  st_new hb rfl sizes3 h0
theorem hvw1 (h : St w0 L w p hv0 0) (hb : Blk w g t (bcs A.1).toArray) : Calls Try.prog 14 #[.pointer (some ⟨p, 0, none⟩), .int .i64 0, .int .i64 1, .slice (some ⟨g, 0, none⟩) 64 c] w fun e w' => e = .returned (.int .i64 0) ∧ St w0 L w' p (hv1 A) 1 ∧ Turn (kept L) w w' :=
  st_write h 0 (dev := 0) rfl (hv0.ds.getD 0 nd) rfl rfl 1 (by decide) (by decide) A hb (by omega)
theorem hvl (h : St w0 L w p (hv1 A) 1) : Calls Try.prog 16 #[.pointer (some ⟨p, 0, none⟩), .int .i64 0] w fun e w' => e = .returned (.int .i64 0) ∧ St w0 L w' p (hv2 A) 2 ∧ Turn (kept L) w w' :=
  st_flush h 0 (dev := 0) rfl ((hv1 A).ds.getD 0 nd) rfl rfl (by show ((-1 : Int)) ≠ 0; decide) (by omega)
theorem hvw2 (h : St w0 L w p (hv2 A) 2) (hb : Blk w g t (bcs B.1).toArray) : Calls Try.prog 14 #[.pointer (some ⟨p, 0, none⟩), .int .i64 0, .int .i64 1, .slice (some ⟨g, 0, none⟩) 64 c] w fun e w' => e = .returned (.int .i64 0) ∧ St w0 L w' p (hv3 A B) 3 ∧ Turn (kept L) w w' :=
  st_write h 0 (dev := 0) rfl ((hv2 A).ds.getD 0 nd) rfl rfl 1 (by show 0 ≤ (1 : Int) ∧ (1 : Int) < 3; decide) (by show ((-1 : Int)) ≠ 0; decide) B hb (by omega)
end
attribute [local irreducible] hv0 hv1 hv2 hv3 hvb secOf zeroSec hvx hvy
def HvS (R1 R2 R3 ga gb : Nat) (A B : Sec) (W : World) : Prop := Blk W R1 66 (bcs (hvx A B).1).toArray ∧ Blk W R2 66 (bcs (hvy A B).1).toArray ∧ Blk W R3 66 (bcs B.1).toArray ∧ Blk W ga 5 (bcs A.1).toArray ∧ Blk W gb 5 (bcs B.1).toArray
theorem rng_to {w : World} {g : Nat} {t : TypeId} {l : List UInt8} (h : Blk w g t (bcs l).toArray) (n : Nat) : w.rangeAt g 0 (bcs (l.take n)) := range_take (range_blk h) n
theorem rng_from {w : World} {g : Nat} {t : TypeId} {l : List UInt8} (h : Blk w g t (bcs l).toArray) (n : Nat) : w.rangeAt g n (bcs (l.drop n)) := by
  have := range_drop (range_blk h) n
  rwa [Nat.zero_add] at this
theorem hvx_val (A B : Sec) : (hvx A B).1 = B.1.take 32 ++ A.1.drop 32 := by unfold hvx; rfl
theorem hvy_val (A B : Sec) : (hvy A B).1 = A.1.take 32 ++ B.1.drop 32 := by unfold hvy; rfl
def Q3 (p q r : Nat) : Nat → Nat := p3 p q r
set_option maxHeartbeats 2000000 in
set_option maxRecDepth 20000 in
theorem plantHalves_walk (a0 : Option Addr) (len0 cap0 : Nat) (z0 : List UInt8) (a1 : Option Addr) (len1 cap1 : Nat) (z1 : List UInt8) (W : World) (hz0 : Bs W a0 len0 z0) (hz1 : Bs W a1 len1 z1) :
    Calls Try.prog 6 #[.slice a0 len0 cap0, .slice a1 len1 cap1] W fun e w' => e = .returned (.bool true) ∧ Below W.heap.size W w' := by
  have HZ0 := Lib.hid hz0
  have HZ1 := Lib.hid hz1
  clear hz0 hz1
  have hmk := make64
  go_enter Try.func6, Try.ntmps6
  go_upto_region 7 with (first
    | (go_at_call 7; refine (shown_walk _).mono ?_; rintro e w1 ⟨rfl, ht⟩; have HT := Lib.hid ht; clear ht)
    | (go_at_call 8; refine (hvn (w0 := W) _ (Blk.new _ _ _) (HT.out.alloc _)).mono ?_; rintro e w2 ⟨p, rfl, hs, ht⟩; have HS := Lib.hid hs; clear hs ht))
  obtain ⟨hs, hle⟩ := two_made HS.out (.cells (bcs zeroSec.1).toArray 5)
  have bA : Blk _ w2.heap.size 5 (bcs zeroSec.1).toArray := (Blk.new w2 _ _).alloc (.cells (bcs zeroSec.1).toArray 5)
  have bB : Blk ((w2.alloc (.cells (bcs zeroSec.1).toArray 5)).alloc (.cells (bcs zeroSec.1).toArray 5)) (w2.heap.size + 1) 5 (bcs zeroSec.1).toArray := by simpa using Blk.new (w2.alloc (.cells (bcs zeroSec.1).toArray 5)) 5 (bcs zeroSec.1).toArray
  generalize ((w2.alloc (.cells (bcs zeroSec.1).toArray 5)).alloc (.cells (bcs zeroSec.1).toArray 5)) = w3 at *
  have hgb : w2.heap.size + 1 ≠ w2.heap.size := by omega
  have hleb : W.heap.size ≤ w2.heap.size + 1 := by omega
  generalize w2.heap.size + 1 = gb at *
  generalize w2.heap.size = ga at *
  obtain ⟨n4, w4, hr4, bA4, ht4⟩ := run_copy_sec (ty := 3) (cap := cap0) (c := 64) (hs.bs HZ0.out) bA
  have hs4 := hs.poke ht4 (.inl (.inr rfl)) hle
  have bB4 := bB.turn ht4 (fun e => hgb e)
  obtain ⟨n5, w5, hr5, bB5, ht5⟩ := run_copy_sec (ty := 3) (cap := cap1) (c := 64) (hs4.bs HZ1.out) bB4
  have hs5 := hs4.poke ht5 (.inr rfl) hleb
  have bA5 := bA4.turn ht5 (fun e => hgb e.symm)
  have HA := Lib.hid bA5
  have HB := Lib.hid bB5
  have HS := Lib.hid hs5
  have HG := Lib.hid hgb
  clear hs hle bA bB hgb hleb hs4 bB4 hs5 bA5 bB5 ht4 ht5 bA4
  generalize hAA : secOf z0 = A at *
  generalize hBB : secOf z1 = B at *
  clear hAA hBB
  refine wp_region_lit ?_
  refine wpList_run (v := .slice (some ⟨ga, 0, none⟩) 64 64) rfl (exec_move rfl rfl) ?_
  simp only [Act.put, List.setIfInBounds_toArray, List.set_cons_zero, List.set_cons_succ]
  refine wpList_run (v := .slice a0 len0 cap0) rfl (exec_move rfl rfl) ?_
  simp only [Act.put, List.setIfInBounds_toArray, List.set_cons_zero, List.set_cons_succ]
  refine Lib.wpList_copy_run _ rfl _ _ _ _ rfl _ _ rfl rfl hr4 ?_
  simp only [Act.put, List.setIfInBounds_toArray, List.set_cons_zero, List.set_cons_succ]
  clear hr4
  go_upto_region 8 with fail
  refine wp_region_lit ?_
  refine wpList_run (v := .slice (some ⟨gb, 0, none⟩) 64 64) rfl (exec_move rfl rfl) ?_
  simp only [Act.put, List.setIfInBounds_toArray, List.set_cons_zero, List.set_cons_succ]
  refine wpList_run (v := .slice a1 len1 cap1) rfl (exec_move rfl rfl) ?_
  simp only [Act.put, List.setIfInBounds_toArray, List.set_cons_zero, List.set_cons_succ]
  refine Lib.wpList_copy_run _ rfl _ _ _ _ rfl _ _ rfl rfl hr5 ?_
  simp only [Act.put, List.setIfInBounds_toArray, List.set_cons_zero, List.set_cons_succ]
  clear hr5
  go_upto_region 9 with fail
  go_wp2_with fail
  refine (hvw1 HS.out HA.out).mono ?_
  rintro e w6 ⟨rfl, hs, ht⟩
  have HA := Lib.hid (blk_kept HA.out ht (.inl (.inr rfl)))
  have HB := Lib.hid (blk_kept HB.out ht (.inr rfl))
  have HS := Lib.hid hs
  clear hs ht
  go_wp2_with fail
  refine (hvl HS.out).mono ?_
  rintro e w7 ⟨rfl, hs, ht⟩
  have HA := Lib.hid (blk_kept HA.out ht (.inl (.inr rfl)))
  have HB := Lib.hid (blk_kept HB.out ht (.inr rfl))
  have HS := Lib.hid hs
  clear hs ht
  go_wp2_with fail
  refine (hvw2 HS.out HB.out).mono ?_
  rintro e w8 ⟨rfl, hs, ht⟩
  have HA := Lib.hid (blk_kept HA.out ht (.inl (.inr rfl)))
  have HB := Lib.hid (blk_kept HB.out ht (.inr rfl))
  have HF := Lib.hid (Fam.start (P := fun _ => p) (S := fun _ => hv3 A B) hs rfl rfl)
  clear hs ht
  go_wp2_with fail
  refine (HF.out.clone (i := 0) (by omega) (by omega)).mono ?_
  rintro e w9 ⟨q, rfl, hf, ht⟩
  have HA := Lib.hid (HA.out.turn ht fun e => e)
  have HB := Lib.hid (HB.out.turn ht fun e => e)
  have HF := Lib.hid (hf (p3 p q 0) (fun _ => hv3 A B) rfl rfl (fun j hj => by
    have hj2 : j = 0 := by omega
    subst hj2
    rfl) (fun j hj => rfl))
  clear hf ht
  go_wp2_with fail
  refine (HF.out.clone (i := 0) (by omega) (by omega)).mono ?_
  rintro e w10 ⟨r, rfl, hf, ht⟩
  have HA := Lib.hid (HA.out.turn ht fun e => e)
  have HB := Lib.hid (HB.out.turn ht fun e => e)
  have HF := Lib.hid (hf (p3 p q r) (p3 (hv3 A B) (hv3 A B) (hv3 A B)) rfl rfl (fun j hj => by
    have hj2 : j = 0 ∨ j = 1 := by omega
    rcases hj2 with rfl | rfl <;> rfl) (fun j hj => by
    have hj2 : j = 0 ∨ j = 1 := by omega
    rcases hj2 with rfl | rfl <;> rfl))
  clear hf ht
  go_wp2_with fail
  have hkp := HF.out.keep ((Turn.refl nowhere w10).alloc (.cells #[.int .i64 2] 3)) (Nat.le_refl _) (by simp)
  refine (fam_boot hkp (i := 0) (by omega) rfl [2] (Blk.new w10 _ _) (.inr rfl) (m := 1) rfl (by omega) (by omega)).mono ?_
  rintro e w11 ⟨rfl, hf, ht⟩
  have HA := Lib.hid (blk_kept (HA.out.alloc _) ht (.inl (.inl (.inr rfl))))
  have HB := Lib.hid (blk_kept (HB.out.alloc _) ht (.inl (.inr rfl)))
  have HF := Lib.hid (hf (p3 (hvb A B 2) (hv3 A B) (hv3 A B)) (hvb_def A B 2) (fun j hj hji => by
    have hj2 : j = 1 ∨ j = 2 := by omega
    rcases hj2 with rfl | rfl <;> rfl))
  clear hf ht hkp
  go_wp2_with fail
  have hkp := HF.out.keep ((Turn.refl nowhere w11).alloc (.cells #[.int .i64 3] 3)) (Nat.le_refl _) (by simp)
  refine (fam_boot hkp (i := 1) (by omega) rfl [3] (Blk.new w11 _ _) (.inr rfl) (m := 1) rfl (by omega) (by omega)).mono ?_
  rintro e w12 ⟨rfl, hf, ht⟩
  have HA := Lib.hid (blk_kept (HA.out.alloc _) ht (.inl (.inl (.inl (.inr rfl)))))
  have HB := Lib.hid (blk_kept (HB.out.alloc _) ht (.inl (.inl (.inr rfl))))
  have HF := Lib.hid (hf (p3 (hvb A B 2) (hvb A B 3) (hv3 A B)) (hvb_def A B 3) (fun j hj hji => by
    have hj2 : j = 0 ∨ j = 2 := by omega
    rcases hj2 with rfl | rfl <;> rfl))
  clear hf ht hkp
  go_wp2_with fail
  have hkp := HF.out.keep ((Turn.refl nowhere w12).alloc (.cells #[.int .i64 1] 3)) (Nat.le_refl _) (by simp)
  refine (fam_boot hkp (i := 2) (by omega) rfl [1] (Blk.new w12 _ _) (.inr rfl) (m := 1) rfl (by omega) (by omega)).mono ?_
  rintro e w13 ⟨rfl, hf, ht⟩
  have HA := Lib.hid (blk_kept (HA.out.alloc _) ht (.inl (.inl (.inl (.inl (.inr rfl))))))
  have HB := Lib.hid (blk_kept (HB.out.alloc _) ht (.inl (.inl (.inl (.inr rfl)))))
  have HF := Lib.hid (hf (p3 (hvb A B 2) (hvb A B 3) (hvb A B 1)) (hvb_def A B 1) (fun j hj hji => by
    have hj2 : j = 0 ∨ j = 1 := by omega
    rcases hj2 with rfl | rfl <;> rfl))
  clear hf ht hkp
  go_wp2_with fail
  refine (fam_read HF.out (i := 0) (by omega) rfl rfl 0 (dev := 0) rfl _ hvd_at2 (hvb_on _) 1 (by rw [hvd_n2]; decide) hvd_r2).mono ?_
  rintro e w14 ⟨R1, rfl, hz, hb, ht⟩
  have HA := Lib.hid (HA.out.turn ht fun e => e)
  have HB := Lib.hid (HB.out.turn ht fun e => e)
  have HF := Lib.hid (HF.out.still ht)
  have HR1 := Lib.hid hb
  clear hz hb ht
  go_wp2_with fail
  refine (fam_read HF.out (i := 1) (by omega) rfl rfl 0 (dev := 0) rfl _ hvd_at3 (hvb_on _) 1 (by rw [hvd_n3]; decide) hvd_r3).mono ?_
  rintro e w15 ⟨R2, rfl, hz, hb, ht⟩
  have HA := Lib.hid (HA.out.turn ht fun e => e)
  have HB := Lib.hid (HB.out.turn ht fun e => e)
  have HF := Lib.hid (HF.out.still ht)
  have HR1 := Lib.hid (HR1.out.turn ht fun e => e)
  have HR2 := Lib.hid hb
  clear hz hb ht
  go_wp2_with fail
  refine (fam_read HF.out (i := 2) (by omega) rfl rfl 0 (dev := 0) rfl _ hvd_at1 (hvb_on _) 1 (by rw [hvd_n1]; decide) hvd_r1).mono ?_
  rintro e w16 ⟨R3, rfl, hz, hb, ht⟩
  have HA := Lib.hid (HA.out.turn ht fun e => e)
  have HB := Lib.hid (HB.out.turn ht fun e => e)
  have HF := Lib.hid (HF.out.still ht)
  have HR1 := Lib.hid (HR1.out.turn ht fun e => e)
  have HR2 := Lib.hid (HR2.out.turn ht fun e => e)
  have HR3 := Lib.hid hb
  clear hz hb ht
  go_upto_region 22 with fail
  have hS0 : HvS R1 R2 R3 ga gb A B w16.drew := ⟨HR1.out, HR2.out, HR3.out, HA.out, HB.out⟩
  refine wp_region_till (HvS R1 R2 R3 ga gb A B) 41 (by kernel_rfl) ?_
  refine till_take (i := 0) (v := .int .i64 0) rfl (by kernel_rfl) (by kernel_rfl) (fun _ _ _ h => h) (.inl ⟨by rfl, fun W hW => exec_move rfl rfl⟩) hS0 ?_
  simp only [Act.put, List.setIfInBounds_toArray, List.set_cons_zero, List.set_cons_succ]
  refine till_take (i := 1) (v := .bool true) rfl (by kernel_rfl) (by kernel_rfl) (fun _ _ _ h => h) (.inl ⟨by rfl, fun W hW => by go_simp⟩) hS0 ?_
  simp only [Act.put, List.setIfInBounds_toArray, List.set_cons_zero, List.set_cons_succ]
  refine till_take (i := 2) (v := .bool true) rfl (by kernel_rfl) (by kernel_rfl) (fun _ _ _ h => h) (.inl ⟨by rfl, fun W hW => by go_simp⟩) hS0 ?_
  simp only [Act.put, List.setIfInBounds_toArray, List.set_cons_zero, List.set_cons_succ]
  refine till_take (i := 3) (v := .int .i64 0) rfl (by kernel_rfl) (by kernel_rfl) (fun _ _ _ h => h) (.inl ⟨by rfl, fun W hW => exec_move rfl rfl⟩) hS0 ?_
  simp only [Act.put, List.setIfInBounds_toArray, List.set_cons_zero, List.set_cons_succ]
  refine till_take (i := 4) (v := .bool true) rfl (by kernel_rfl) (by kernel_rfl) (fun _ _ _ h => h) (.inl ⟨by rfl, fun W hW => by go_simp⟩) hS0 ?_
  simp only [Act.put, List.setIfInBounds_toArray, List.set_cons_zero, List.set_cons_succ]
  refine till_take (i := 5) (v := .bool true) rfl (by kernel_rfl) (by kernel_rfl) (fun _ _ _ h => h) (.inl ⟨by rfl, fun W hW => by go_simp⟩) hS0 ?_
  simp only [Act.put, List.setIfInBounds_toArray, List.set_cons_zero, List.set_cons_succ]
  refine till_take (i := 6) (v := .bool true) rfl (by kernel_rfl) (by kernel_rfl) (fun _ _ _ h => h) (.inl ⟨by rfl, fun W hW => by go_simp⟩) hS0 ?_
  simp only [Act.put, List.setIfInBounds_toArray, List.set_cons_zero, List.set_cons_succ]
  refine till_take (i := 7) (v := .int .i64 0) rfl (by kernel_rfl) (by kernel_rfl) (fun _ _ _ h => h) (.inl ⟨by rfl, fun W hW => exec_move rfl rfl⟩) hS0 ?_
  simp only [Act.put, List.setIfInBounds_toArray, List.set_cons_zero, List.set_cons_succ]
  refine till_take (i := 8) (v := .bool true) rfl (by kernel_rfl) (by kernel_rfl) (fun _ _ _ h => h) (.inl ⟨by rfl, fun W hW => by go_simp⟩) hS0 ?_
  simp only [Act.put, List.setIfInBounds_toArray, List.set_cons_zero, List.set_cons_succ]
  refine till_take (i := 9) (v := .bool true) rfl (by kernel_rfl) (by kernel_rfl) (fun _ _ _ h => h) (.inl ⟨by rfl, fun W hW => by go_simp⟩) hS0 ?_
  simp only [Act.put, List.setIfInBounds_toArray, List.set_cons_zero, List.set_cons_succ]
  refine till_take (i := 10) (v := .bool true) rfl (by kernel_rfl) (by kernel_rfl) (fun _ _ _ h => h) (.inl ⟨by rfl, fun W hW => by go_simp⟩) hS0 ?_
  simp only [Act.put, List.setIfInBounds_toArray, List.set_cons_zero, List.set_cons_succ]
  refine till_take (i := 11) (v := .slice (some ⟨R1, 0, none⟩) 64 64) rfl (by kernel_rfl) (by kernel_rfl) (fun _ _ _ h => h) (.inl ⟨by rfl, fun W hW => exec_move rfl rfl⟩) hS0 ?_
  simp only [Act.put, List.setIfInBounds_toArray, List.set_cons_zero, List.set_cons_succ]
  refine till_take (i := 12) (v := strV (hvx A B).1) rfl (by kernel_rfl) (by kernel_rfl) (fun _ _ _ h => h) (.inl ⟨by rfl, fun W hW => exec_str rfl rfl (hvx A B).2 (range_blk hW.1)⟩) hS0 ?_
  simp only [Act.put, List.setIfInBounds_toArray, List.set_cons_zero, List.set_cons_succ]
  refine till_take (i := 13) (v := .slice (some ⟨gb, 0, none⟩) 64 64) rfl (by kernel_rfl) (by kernel_rfl) (fun _ _ _ h => h) (.inl ⟨by rfl, fun W hW => exec_move rfl rfl⟩) hS0 ?_
  simp only [Act.put, List.setIfInBounds_toArray, List.set_cons_zero, List.set_cons_succ]
  refine till_take (i := 14) (v := .slice (some ⟨gb, 0, none⟩) 32 64) rfl (by kernel_rfl) (by kernel_rfl) (fun _ _ _ h => h) (.inl ⟨by rfl, fun W hW => exec_slice rfl rfl rfl rfl rfl (slice_to _ _)⟩) hS0 ?_
  simp only [Act.put, List.setIfInBounds_toArray, List.set_cons_zero, List.set_cons_succ]
  refine till_take (i := 15) (v := strV (B.1.take 32)) rfl (by kernel_rfl) (by kernel_rfl) (fun _ _ _ h => h) (.inl ⟨by rfl, fun W hW => exec_str rfl rfl (by have := B.2; simp; omega) (rng_to hW.2.2.2.2 32)⟩) hS0 ?_
  simp only [Act.put, List.setIfInBounds_toArray, List.set_cons_zero, List.set_cons_succ]
  refine till_take (i := 16) (v := .slice (some ⟨ga, 0, none⟩) 64 64) rfl (by kernel_rfl) (by kernel_rfl) (fun _ _ _ h => h) (.inl ⟨by rfl, fun W hW => exec_move rfl rfl⟩) hS0 ?_
  simp only [Act.put, List.setIfInBounds_toArray, List.set_cons_zero, List.set_cons_succ]
  refine till_take (i := 17) (v := .slice (some ⟨ga, 32, none⟩) 32 32) rfl (by kernel_rfl) (by kernel_rfl) (fun _ _ _ h => h) (.inl ⟨by rfl, fun W hW => exec_slice rfl rfl rfl rfl rfl (slice_from _ _)⟩) hS0 ?_
  simp only [Act.put, List.setIfInBounds_toArray, List.set_cons_zero, List.set_cons_succ]
  refine till_take (i := 18) (v := strV (A.1.drop 32)) rfl (by kernel_rfl) (by kernel_rfl) (fun _ _ _ h => h) (.inl ⟨by rfl, fun W hW => exec_str rfl rfl (by have := A.2; simp; omega) (rng_from hW.2.2.2.1 32)⟩) hS0 ?_
  simp only [Act.put, List.setIfInBounds_toArray, List.set_cons_zero, List.set_cons_succ]
  refine till_take (i := 19) (v := strV (hvx A B).1) rfl (by kernel_rfl) (by kernel_rfl) (fun _ _ _ h => h) (.inl ⟨by rfl, fun W hW => by rw [hvx_val]; exact exec_sadd rfl rfl rfl (by have := A.2; have := B.2; simp; omega)⟩) hS0 ?_
  simp only [Act.put, List.setIfInBounds_toArray, List.set_cons_zero, List.set_cons_succ]
  refine till_take (i := 20) (v := .bool true) rfl (by kernel_rfl) (by kernel_rfl) (fun _ _ _ h => h) (.inl ⟨by rfl, fun W hW => (exec_seql (l := (hvx A B).1) (m := (hvx A B).1) rfl rfl rfl).trans (by simp)⟩) hS0 ?_
  simp only [Act.put, List.setIfInBounds_toArray, List.set_cons_zero, List.set_cons_succ]
  refine till_take (i := 21) (v := .bool true) rfl (by kernel_rfl) (by kernel_rfl) (fun _ _ _ h => h) (.inl ⟨by rfl, fun W hW => by go_simp⟩) hS0 ?_
  simp only [Act.put, List.setIfInBounds_toArray, List.set_cons_zero, List.set_cons_succ]
  refine till_take (i := 22) (v := .bool true) rfl (by kernel_rfl) (by kernel_rfl) (fun _ _ _ h => h) (.inl ⟨by rfl, fun W hW => exec_move rfl rfl⟩) hS0 ?_
  simp only [Act.put, List.setIfInBounds_toArray, List.set_cons_zero, List.set_cons_succ]
  refine till_take (i := 23) (v := .slice (some ⟨R2, 0, none⟩) 64 64) rfl (by kernel_rfl) (by kernel_rfl) (fun _ _ _ h => h) (.inl ⟨by rfl, fun W hW => exec_move rfl rfl⟩) hS0 ?_
  simp only [Act.put, List.setIfInBounds_toArray, List.set_cons_zero, List.set_cons_succ]
  refine till_take (i := 24) (v := strV (hvy A B).1) rfl (by kernel_rfl) (by kernel_rfl) (fun _ _ _ h => h) (.inl ⟨by rfl, fun W hW => exec_str rfl rfl (hvy A B).2 (range_blk hW.2.1)⟩) hS0 ?_
  simp only [Act.put, List.setIfInBounds_toArray, List.set_cons_zero, List.set_cons_succ]
  refine till_take (i := 25) (v := .slice (some ⟨ga, 0, none⟩) 64 64) rfl (by kernel_rfl) (by kernel_rfl) (fun _ _ _ h => h) (.inl ⟨by rfl, fun W hW => exec_move rfl rfl⟩) hS0 ?_
  simp only [Act.put, List.setIfInBounds_toArray, List.set_cons_zero, List.set_cons_succ]
  refine till_take (i := 26) (v := .slice (some ⟨ga, 0, none⟩) 32 64) rfl (by kernel_rfl) (by kernel_rfl) (fun _ _ _ h => h) (.inl ⟨by rfl, fun W hW => exec_slice rfl rfl rfl rfl rfl (slice_to _ _)⟩) hS0 ?_
  simp only [Act.put, List.setIfInBounds_toArray, List.set_cons_zero, List.set_cons_succ]
  refine till_take (i := 27) (v := strV (A.1.take 32)) rfl (by kernel_rfl) (by kernel_rfl) (fun _ _ _ h => h) (.inl ⟨by rfl, fun W hW => exec_str rfl rfl (by have := A.2; simp; omega) (rng_to hW.2.2.2.1 32)⟩) hS0 ?_
  simp only [Act.put, List.setIfInBounds_toArray, List.set_cons_zero, List.set_cons_succ]
  refine till_take (i := 28) (v := .slice (some ⟨gb, 0, none⟩) 64 64) rfl (by kernel_rfl) (by kernel_rfl) (fun _ _ _ h => h) (.inl ⟨by rfl, fun W hW => exec_move rfl rfl⟩) hS0 ?_
  simp only [Act.put, List.setIfInBounds_toArray, List.set_cons_zero, List.set_cons_succ]
  refine till_take (i := 29) (v := .slice (some ⟨gb, 32, none⟩) 32 32) rfl (by kernel_rfl) (by kernel_rfl) (fun _ _ _ h => h) (.inl ⟨by rfl, fun W hW => exec_slice rfl rfl rfl rfl rfl (slice_from _ _)⟩) hS0 ?_
  simp only [Act.put, List.setIfInBounds_toArray, List.set_cons_zero, List.set_cons_succ]
  refine till_take (i := 30) (v := strV (B.1.drop 32)) rfl (by kernel_rfl) (by kernel_rfl) (fun _ _ _ h => h) (.inl ⟨by rfl, fun W hW => exec_str rfl rfl (by have := B.2; simp; omega) (rng_from hW.2.2.2.2 32)⟩) hS0 ?_
  simp only [Act.put, List.setIfInBounds_toArray, List.set_cons_zero, List.set_cons_succ]
  refine till_take (i := 31) (v := strV (hvy A B).1) rfl (by kernel_rfl) (by kernel_rfl) (fun _ _ _ h => h) (.inl ⟨by rfl, fun W hW => by rw [hvy_val]; exact exec_sadd rfl rfl rfl (by have := A.2; have := B.2; simp; omega)⟩) hS0 ?_
  simp only [Act.put, List.setIfInBounds_toArray, List.set_cons_zero, List.set_cons_succ]
  refine till_take (i := 32) (v := .bool true) rfl (by kernel_rfl) (by kernel_rfl) (fun _ _ _ h => h) (.inl ⟨by rfl, fun W hW => (exec_seql (l := (hvy A B).1) (m := (hvy A B).1) rfl rfl rfl).trans (by simp)⟩) hS0 ?_
  simp only [Act.put, List.setIfInBounds_toArray, List.set_cons_zero, List.set_cons_succ]
  refine till_take (i := 33) (v := .bool true) rfl (by kernel_rfl) (by kernel_rfl) (fun _ _ _ h => h) (.inl ⟨by rfl, fun W hW => by go_simp⟩) hS0 ?_
  simp only [Act.put, List.setIfInBounds_toArray, List.set_cons_zero, List.set_cons_succ]
  refine till_take (i := 34) (v := .bool true) rfl (by kernel_rfl) (by kernel_rfl) (fun _ _ _ h => h) (.inl ⟨by rfl, fun W hW => exec_move rfl rfl⟩) hS0 ?_
  simp only [Act.put, List.setIfInBounds_toArray, List.set_cons_zero, List.set_cons_succ]
  refine till_take (i := 35) (v := .slice (some ⟨R3, 0, none⟩) 64 64) rfl (by kernel_rfl) (by kernel_rfl) (fun _ _ _ h => h) (.inl ⟨by rfl, fun W hW => exec_move rfl rfl⟩) hS0 ?_
  simp only [Act.put, List.setIfInBounds_toArray, List.set_cons_zero, List.set_cons_succ]
  refine till_take (i := 36) (v := strV B.1) rfl (by kernel_rfl) (by kernel_rfl) (fun _ _ _ h => h) (.inl ⟨by rfl, fun W hW => exec_str rfl rfl B.2 (range_blk hW.2.2.1)⟩) hS0 ?_
  simp only [Act.put, List.setIfInBounds_toArray, List.set_cons_zero, List.set_cons_succ]
  refine till_take (i := 37) (v := .slice (some ⟨gb, 0, none⟩) 64 64) rfl (by kernel_rfl) (by kernel_rfl) (fun _ _ _ h => h) (.inl ⟨by rfl, fun W hW => exec_move rfl rfl⟩) hS0 ?_
  simp only [Act.put, List.setIfInBounds_toArray, List.set_cons_zero, List.set_cons_succ]
  refine till_take (i := 38) (v := strV B.1) rfl (by kernel_rfl) (by kernel_rfl) (fun _ _ _ h => h) (.inl ⟨by rfl, fun W hW => exec_str rfl rfl B.2 (range_blk hW.2.2.2.2)⟩) hS0 ?_
  simp only [Act.put, List.setIfInBounds_toArray, List.set_cons_zero, List.set_cons_succ]
  refine till_take (i := 39) (v := .bool true) rfl (by kernel_rfl) (by kernel_rfl) (fun _ _ _ h => h) (.inl ⟨by rfl, fun W hW => (exec_seql (l := B.1) (m := B.1) rfl rfl rfl).trans (by simp)⟩) hS0 ?_
  simp only [Act.put, List.setIfInBounds_toArray, List.set_cons_zero, List.set_cons_succ]
  refine till_take (i := 40) (v := .bool true) rfl (by kernel_rfl) (by kernel_rfl) (fun _ _ _ h => h) (.inl ⟨by rfl, fun W hW => by go_simp⟩) hS0 ?_
  simp only [Act.put, List.setIfInBounds_toArray, List.set_cons_zero, List.set_cons_succ]
  refine till_tail 41 rfl (by kernel_rfl) ?_
  have HT2 := Lib.hid HF.out.tr
  clear hS0
  go_wp2_with fail
  refine NoPanic.normal ?_
  go_wp2_with fail
  go_ret
  exact ⟨rfl, HT2.out.drew.below (Nat.le_refl _) (fun _ _ e => e)⟩
end Go.Proofs.Ytgdlidjjogoiaaa
