/-
  groatlaw03's PlantApart, walked
-/
import Derived.Test.YtgagjfiboomigaaPlAp
namespace Go.Proofs.Ytgagjfiboomigaa
open Go.RowKit Go.Maps
set_option linter.unusedVariables false
def ap0 : AP := AP.new [4, 4]
def ap1 (A : Sec) : AP := ap0.put 0 (ap0.ds.getD 0 nd) 2 A
def ap2 (A B : Sec) : AP := (ap1 A).put 1 ((ap1 A).ds.getD 1 nd) 2 B
def ap3 (A B : Sec) : AP := (ap2 A B).flushed 1 ((ap2 A B).ds.getD 1 nd)
def ap4 (A B : Sec) : AP := (ap3 A B).boot []
def apd (A B : Sec) (i : Nat) : AD := (ap4 A B).ds.getD i nd
section
variable {A B : Sec} {w0 w : World} {L : Nat → Prop} {p g c : Nat} {t : TypeId}
theorem apd_at0 : (ap4 A B).ds[0]? = some (apd A B 0) := by kernel_rfl
theorem apd_at1 : (ap4 A B).ds[1]? = some (apd A B 1) := by kernel_rfl
theorem apd_n0 : (apd A B 0).n = 4 := by kernel_rfl
theorem apd_n1 : (apd A B 1).n = 4 := by kernel_rfl
theorem apd_r0 : (apd A B 0).read 2 = zeroSec := by kernel_rfl
theorem apd_r1 : (apd A B 1).read 2 = B := by kernel_rfl
theorem ap4_steps : (ap4 A B).steps = 3 := by kernel_rfl
theorem ap4_on : (ap4 A B).on = true := by kernel_rfl
theorem sizes44 : sizesOk [4, 4] := ⟨by decide, by decide, by decide⟩
theorem apn (g : Nat) (hb : Blk w g t (intsC [4, 4])) (h0 : Turn nowhere w0 w) : Calls Try.prog 11 #[.slice (some ⟨g, 0, none⟩) 2 2] w fun e w' => ∃ p, e = .returned (.tuple #[.pointer (some ⟨p, 0, none⟩), .int .i64 0]) ∧ St w0 (fun k => k < w0.heap.size) w' p ap0 0 ∧ Turn nowhere w w' :=
  st_new hb rfl sizes44 h0
theorem apw1 (h : St w0 L w p ap0 0) (hb : Blk w g t (bcs A.1).toArray) : Calls Try.prog 19 #[.pointer (some ⟨p, 0, none⟩), .int .i64 0, .int .i64 2, .slice (some ⟨g, 0, none⟩) 64 c] w fun e w' => e = .returned (.int .i64 0) ∧ St w0 L w' p (ap1 A) 1 ∧ Turn (kept L) w w' :=
  st_write h 0 (dev := 0) rfl (ap0.ds.getD 0 nd) rfl rfl 2 (by decide) (by decide) A hb (by omega)
theorem apw2 (h : St w0 L w p (ap1 A) 1) (hb : Blk w g t (bcs B.1).toArray) : Calls Try.prog 19 #[.pointer (some ⟨p, 0, none⟩), .int .i64 1, .int .i64 2, .slice (some ⟨g, 0, none⟩) 64 c] w fun e w' => e = .returned (.int .i64 0) ∧ St w0 L w' p (ap2 A B) 2 ∧ Turn (kept L) w w' :=
  st_write h 1 (dev := 1) rfl ((ap1 A).ds.getD 1 nd) rfl rfl 2 (by show 0 ≤ (2 : Int) ∧ (2 : Int) < 4; decide) (by show ((-1 : Int)) ≠ 0; decide) B hb (by omega)
theorem apl (h : St w0 L w p (ap2 A B) 2) : Calls Try.prog 21 #[.pointer (some ⟨p, 0, none⟩), .int .i64 1] w fun e w' => e = .returned (.int .i64 0) ∧ St w0 L w' p (ap3 A B) 3 ∧ Turn (kept L) w w' :=
  st_flush h 1 (dev := 1) rfl ((ap2 A B).ds.getD 1 nd) rfl rfl (by show ((-1 : Int)) ≠ 0; decide) (by omega)
theorem apb (h : St w0 L w p (ap3 A B) 3) : Calls Try.prog 26 #[.pointer (some ⟨p, 0, none⟩), .slice none 0 0] w fun e w' => e = .returned (.tuple #[]) ∧ St w0 L w' p (ap4 A B) 3 ∧ Turn (kept L) w w' :=
  st_boot_nil h none (by omega)
theorem apr0 (h : St w0 L w p (ap4 A B) 3) : Calls Try.prog 23 #[.pointer (some ⟨p, 0, none⟩), .int .i64 0, .int .i64 2] w fun e w' =>
      ∃ R, e = .returned (.tuple #[.slice (some ⟨R, 0, none⟩) 64 64, .int .i64 0]) ∧ w.heap.size ≤ R ∧ Blk w' R 72 (bcs zeroSec.1).toArray ∧ Turn nowhere w w' := by
  have h := st_read h 0 (dev := 0) rfl _ apd_at0 ap4_on 2 (by rw [apd_n0]; decide)
  rwa [apd_r0] at h
theorem apr1 (h : St w0 L w p (ap4 A B) 3) : Calls Try.prog 23 #[.pointer (some ⟨p, 0, none⟩), .int .i64 1, .int .i64 2] w fun e w' =>
      ∃ R, e = .returned (.tuple #[.slice (some ⟨R, 0, none⟩) 64 64, .int .i64 0]) ∧ w.heap.size ≤ R ∧ Blk w' R 72 (bcs B.1).toArray ∧ Turn nowhere w w' := by
  have h := st_read h 1 (dev := 1) rfl _ apd_at1 ap4_on 2 (by rw [apd_n1]; decide)
  rwa [apd_r1] at h
theorem aps (h : St w0 L w p (ap4 A B) 3) : Calls Try.prog 30 #[.pointer (some ⟨p, 0, none⟩)] w fun e w' => e = .returned (.int .i64 3) ∧ w = w' := by
  have h' := st_steps h
  rwa [ap4_steps] at h'
end
attribute [local irreducible] ap0 ap1 ap2 ap3 ap4 secOf zeroSec
def ApS (R1 R2 gb : Nat) (B : Sec) (W : World) : Prop := Blk W R1 72 (bcs zeroSec.1).toArray ∧ Blk W R2 72 (bcs B.1).toArray ∧ Blk W gb 5 (bcs B.1).toArray
theorem make64 (W : World) : (Instr.makeSlice 39 (.int .i64 64) (.int .i64 64)).run Try.prog W = .ok (.slice (some ⟨W.heap.size, 0, none⟩) 64 64) (W.alloc (.cells (bcs zeroSec.1).toArray 5)) := by kernel_rfl
theorem exec_make64 {a : Act} {o : Oper} {x y : Operand} {W : World} (ho : o.op = .makeSlice 39 x y) (hx : a.eval x = .int .i64 64) (hy : a.eval y = .int .i64 64) : (execOp a.eval o).run Try.prog W = .ok (.value (.slice (some ⟨W.heap.size, 0, none⟩) 64 64)) (W.alloc (.cells (bcs zeroSec.1).toArray 5)) := by
  unfold execOp
  simp only [ho, hx, hy, make64, Sem.run_bind, Sem.run_pure, Result.andThen_ok]
theorem apart_made {R1 R2 gb : Nat} {B : Sec} {W : World} (h : ApS R1 R2 gb B W) : Blk (W.alloc (.cells (bcs zeroSec.1).toArray 5)) W.heap.size 5 (bcs zeroSec.1).toArray ∧ ApS R1 R2 gb B (W.alloc (.cells (bcs zeroSec.1).toArray 5)) :=
  ⟨Blk.new _ _ _, h.1.alloc _, h.2.1.alloc _, h.2.2.alloc _⟩
set_option maxHeartbeats 1000000 in
theorem plantApart_walk (a0 : Option Addr) (len0 cap0 : Nat) (z0 : List UInt8) (a1 : Option Addr) (len1 cap1 : Nat) (z1 : List UInt8) (W : World) (hz0 : Bs W a0 len0 z0) (hz1 : Bs W a1 len1 z1) :
    Calls Try.prog 8 #[.slice a0 len0 cap0, .slice a1 len1 cap1] W fun e w' => e = .returned (.bool true) ∧ Below W.heap.size W w' := by
  have HZ0 := Lib.hid hz0
  have HZ1 := Lib.hid hz1
  clear hz0 hz1
  have hmk := make64
  go_enter Try.func8, Try.ntmps8
  go_upto_region 7 with (first
    | (go_at_call 10; refine (shown_walk _).mono ?_; rintro e w1 ⟨rfl, ht⟩; have HT := Lib.hid ht; clear ht)
    | (go_at_call 11; refine (apn (w0 := W) _ (Blk.new _ _ _) (HT.out.alloc _)).mono ?_; rintro e w2 ⟨p, rfl, hs, ht⟩; have HS := Lib.hid hs; clear hs ht))
  obtain ⟨hs, hle⟩ := two_made HS.out (.cells (bcs zeroSec.1).toArray 5)
  have bA : Blk _ w2.heap.size 5 (bcs zeroSec.1).toArray := (Blk.new w2 _ _).alloc (.cells (bcs zeroSec.1).toArray 5)
  have bB : Blk ((w2.alloc (.cells (bcs zeroSec.1).toArray 5)).alloc (.cells (bcs zeroSec.1).toArray 5)) (w2.heap.size + 1) 5 (bcs zeroSec.1).toArray := by simpa using Blk.new (w2.alloc (.cells (bcs zeroSec.1).toArray 5)) 5 (bcs zeroSec.1).toArray
  generalize ((w2.alloc (.cells (bcs zeroSec.1).toArray 5)).alloc (.cells (bcs zeroSec.1).toArray 5)) = w3 at *
  have hgb : w2.heap.size + 1 ≠ w2.heap.size := by omega
  have hleb : W.heap.size ≤ w2.heap.size + 1 := by omega
  generalize w2.heap.size + 1 = gb at *
  generalize w2.heap.size = ga at *
  obtain ⟨n4, w4, hr4, bA4, ht4⟩ := run_copy_sec (ty := 3) (cap := cap0) (c := 64) (hs.bs HZ0.out) bA
  have hs4 := hs.poke ht4 (.inl (.inr rfl)) hle
  have bB4 := bB.turn ht4 (fun e => hgb e)
  obtain ⟨n5, w5, hr5, bB5, ht5⟩ := run_copy_sec (ty := 3) (cap := cap1) (c := 64) (hs4.bs HZ1.out) bB4
  have hs5 := hs4.poke ht5 (.inr rfl) hleb
  have bA5 := bA4.turn ht5 (fun e => hgb e.symm)
  have HA := Lib.hid bA5
  have HB := Lib.hid bB5
  have HS := Lib.hid hs5
  have HG := Lib.hid hgb
  clear hs hle bA bB hgb hleb hs4 bB4 hs5 bA5 bB5 ht4 ht5 bA4
  generalize hAA : secOf z0 = A at *
  generalize hBB : secOf z1 = B at *
  clear hAA hBB
  refine wp_region_lit ?_
  refine wpList_run (v := .slice (some ⟨ga, 0, none⟩) 64 64) rfl (exec_move rfl rfl) ?_
  simp only [Act.put, List.setIfInBounds_toArray, List.set_cons_zero, List.set_cons_succ]
  refine wpList_run (v := .slice a0 len0 cap0) rfl (exec_move rfl rfl) ?_
  simp only [Act.put, List.setIfInBounds_toArray, List.set_cons_zero, List.set_cons_succ]
  refine Lib.wpList_copy_run _ rfl _ _ _ _ rfl _ _ rfl rfl hr4 ?_
  simp only [Act.put, List.setIfInBounds_toArray, List.set_cons_zero, List.set_cons_succ]
  clear hr4
  go_upto_region 8 with fail
  refine wp_region_lit ?_
  refine wpList_run (v := .slice (some ⟨gb, 0, none⟩) 64 64) rfl (exec_move rfl rfl) ?_
  simp only [Act.put, List.setIfInBounds_toArray, List.set_cons_zero, List.set_cons_succ]
  refine wpList_run (v := .slice a1 len1 cap1) rfl (exec_move rfl rfl) ?_
  simp only [Act.put, List.setIfInBounds_toArray, List.set_cons_zero, List.set_cons_succ]
  refine Lib.wpList_copy_run _ rfl _ _ _ _ rfl _ _ rfl rfl hr5 ?_
  simp only [Act.put, List.setIfInBounds_toArray, List.set_cons_zero, List.set_cons_succ]
  clear hr5
  go_upto_region 11 with (first
    | (go_at_call 19; (first
       | (have h0 : St W _ _ p ap0 0 := HS.out; refine (apw1 h0 HA.out).mono ?_; clear h0; rintro e w6 ⟨rfl, hs, ht⟩; have hb := blk_kept HB.out ht (.inr rfl); have HS := Lib.hid hs; have HB := Lib.hid hb; clear hs ht hb)
       | (have h0 : St W _ _ p (ap1 A) 1 := HS.out; refine (apw2 h0 HB.out).mono ?_; clear h0; rintro e w7 ⟨rfl, hs, ht⟩; have hb := blk_kept HB.out ht (.inr rfl); have HS := Lib.hid hs; have HB := Lib.hid hb; clear hs ht hb))))
  go_upto_region 15 with (first
    | (go_at_call 21; refine (apl HS.out).mono ?_; rintro e w8 ⟨rfl, hs, ht⟩; have hb := blk_kept HB.out ht (.inr rfl); have HS := Lib.hid hs; have HB := Lib.hid hb; clear hs ht hb)
    | (go_at_call 26; refine (apb HS.out).mono ?_; rintro e w9 ⟨rfl, hs, ht⟩; have hb := blk_kept HB.out ht (.inr rfl); have HS := Lib.hid hs; have HB := Lib.hid hb; clear hs ht hb))
  refine (apr0 HS.out).mono ?_
  rintro e w10 ⟨R1, rfl, hz, hb, ht⟩
  have hb2 := HB.out.turn ht (fun e => e)
  have HS := Lib.hid (HS.out.still ht)
  have HB := Lib.hid hb2
  have HR1 := Lib.hid hb
  clear hz hb ht hb2
  go_upto_region 15 with fail
  refine (apr1 HS.out).mono ?_
  rintro e w11 ⟨R2, rfl, hz, hb, ht⟩
  have hb2 := HB.out.turn ht (fun e => e)
  have hb3 := HR1.out.turn ht (fun e => e)
  have HS := Lib.hid (HS.out.still ht)
  have hS0 : ApS R1 R2 gb B w11.drew := ⟨hb3, hb, hb2⟩
  clear hz hb ht hb2 hb3
  go_upto_region 15 with fail
  refine wp_region_till (ApS R1 R2 gb B) 37 (by kernel_rfl) ?_
  refine till_take (i := 0) (v := .int .i64 0) rfl (by kernel_rfl) (by kernel_rfl) (fun _ _ _ h => h) (.inl ⟨by rfl, fun W hW => exec_move rfl rfl⟩) hS0 ?_
  simp only [Act.put, List.setIfInBounds_toArray, List.set_cons_zero, List.set_cons_succ]
  refine till_take (i := 1) (v := .bool true) rfl (by kernel_rfl) (by kernel_rfl) (fun _ _ _ h => h) (.inl ⟨by rfl, fun W hW => by go_simp⟩) hS0 ?_
  simp only [Act.put, List.setIfInBounds_toArray, List.set_cons_zero, List.set_cons_succ]
  refine till_take (i := 2) (v := .bool true) rfl (by kernel_rfl) (by kernel_rfl) (fun _ _ _ h => h) (.inl ⟨by rfl, fun W hW => by go_simp⟩) hS0 ?_
  simp only [Act.put, List.setIfInBounds_toArray, List.set_cons_zero, List.set_cons_succ]
  refine till_take (i := 3) (v := .int .i64 0) rfl (by kernel_rfl) (by kernel_rfl) (fun _ _ _ h => h) (.inl ⟨by rfl, fun W hW => exec_move rfl rfl⟩) hS0 ?_
  simp only [Act.put, List.setIfInBounds_toArray, List.set_cons_zero, List.set_cons_succ]
  refine till_take (i := 4) (v := .bool true) rfl (by kernel_rfl) (by kernel_rfl) (fun _ _ _ h => h) (.inl ⟨by rfl, fun W hW => by go_simp⟩) hS0 ?_
  simp only [Act.put, List.setIfInBounds_toArray, List.set_cons_zero, List.set_cons_succ]
  refine till_take (i := 5) (v := .bool true) rfl (by kernel_rfl) (by kernel_rfl) (fun _ _ _ h => h) (.inl ⟨by rfl, fun W hW => by go_simp⟩) hS0 ?_
  simp only [Act.put, List.setIfInBounds_toArray, List.set_cons_zero, List.set_cons_succ]
  refine till_take (i := 6) (v := .bool true) rfl (by kernel_rfl) (by kernel_rfl) (fun _ _ _ h => h) (.inl ⟨by rfl, fun W hW => by go_simp⟩) hS0 ?_
  simp only [Act.put, List.setIfInBounds_toArray, List.set_cons_zero, List.set_cons_succ]
  refine till_take (i := 7) (v := .int .i64 0) rfl (by kernel_rfl) (by kernel_rfl) (fun _ _ _ h => h) (.inl ⟨by rfl, fun W hW => exec_move rfl rfl⟩) hS0 ?_
  simp only [Act.put, List.setIfInBounds_toArray, List.set_cons_zero, List.set_cons_succ]
  refine till_take (i := 8) (v := .bool true) rfl (by kernel_rfl) (by kernel_rfl) (fun _ _ _ h => h) (.inl ⟨by rfl, fun W hW => by go_simp⟩) hS0 ?_
  simp only [Act.put, List.setIfInBounds_toArray, List.set_cons_zero, List.set_cons_succ]
  refine till_take (i := 9) (v := .bool true) rfl (by kernel_rfl) (by kernel_rfl) (fun _ _ _ h => h) (.inl ⟨by rfl, fun W hW => by go_simp⟩) hS0 ?_
  simp only [Act.put, List.setIfInBounds_toArray, List.set_cons_zero, List.set_cons_succ]
  refine till_take (i := 10) (v := .bool true) rfl (by kernel_rfl) (by kernel_rfl) (fun _ _ _ h => h) (.inl ⟨by rfl, fun W hW => by go_simp⟩) hS0 ?_
  simp only [Act.put, List.setIfInBounds_toArray, List.set_cons_zero, List.set_cons_succ]
  refine till_take (i := 11) (v := .int .i64 0) rfl (by kernel_rfl) (by kernel_rfl) (fun _ _ _ h => h) (.inl ⟨by rfl, fun W hW => exec_move rfl rfl⟩) hS0 ?_
  simp only [Act.put, List.setIfInBounds_toArray, List.set_cons_zero, List.set_cons_succ]
  refine till_take (i := 12) (v := .bool true) rfl (by kernel_rfl) (by kernel_rfl) (fun _ _ _ h => h) (.inl ⟨by rfl, fun W hW => by go_simp⟩) hS0 ?_
  simp only [Act.put, List.setIfInBounds_toArray, List.set_cons_zero, List.set_cons_succ]
  refine till_take (i := 13) (v := .bool true) rfl (by kernel_rfl) (by kernel_rfl) (fun _ _ _ h => h) (.inl ⟨by rfl, fun W hW => by go_simp⟩) hS0 ?_
  simp only [Act.put, List.setIfInBounds_toArray, List.set_cons_zero, List.set_cons_succ]
  refine till_take (i := 14) (v := .bool true) rfl (by kernel_rfl) (by kernel_rfl) (fun _ _ _ h => h) (.inl ⟨by rfl, fun W hW => by go_simp⟩) hS0 ?_
  simp only [Act.put, List.setIfInBounds_toArray, List.set_cons_zero, List.set_cons_succ]
  refine till_take (i := 15) (v := .int .i64 0) rfl (by kernel_rfl) (by kernel_rfl) (fun _ _ _ h => h) (.inl ⟨by rfl, fun W hW => exec_move rfl rfl⟩) hS0 ?_
  simp only [Act.put, List.setIfInBounds_toArray, List.set_cons_zero, List.set_cons_succ]
  refine till_take (i := 16) (v := .bool true) rfl (by kernel_rfl) (by kernel_rfl) (fun _ _ _ h => h) (.inl ⟨by rfl, fun W hW => by go_simp⟩) hS0 ?_
  simp only [Act.put, List.setIfInBounds_toArray, List.set_cons_zero, List.set_cons_succ]
  refine till_take (i := 17) (v := .bool true) rfl (by kernel_rfl) (by kernel_rfl) (fun _ _ _ h => h) (.inl ⟨by rfl, fun W hW => by go_simp⟩) hS0 ?_
  simp only [Act.put, List.setIfInBounds_toArray, List.set_cons_zero, List.set_cons_succ]
  refine till_take (i := 18) (v := .bool true) rfl (by kernel_rfl) (by kernel_rfl) (fun _ _ _ h => h) (.inl ⟨by rfl, fun W hW => by go_simp⟩) hS0 ?_
  simp only [Act.put, List.setIfInBounds_toArray, List.set_cons_zero, List.set_cons_succ]
  refine till_take (i := 19) (v := .slice (some ⟨R1, 0, none⟩) 64 64) rfl (by kernel_rfl) (by kernel_rfl) (fun _ _ _ h => h) (.inl ⟨by rfl, fun W hW => exec_move rfl rfl⟩) hS0 ?_
  simp only [Act.put, List.setIfInBounds_toArray, List.set_cons_zero, List.set_cons_succ]
  refine till_take (i := 20) (v := strV (zeroSec).1) rfl (by kernel_rfl) (by kernel_rfl) (fun _ _ _ h => h) (.inl ⟨by rfl, fun W hW => exec_str rfl rfl zeroSec.2 (range_blk hW.1)⟩) hS0 ?_
  simp only [Act.put, List.setIfInBounds_toArray, List.set_cons_zero, List.set_cons_succ]
  refine till_only (i := 21) (by kernel_rfl) rfl rfl ?_
  refine wp_run (exec_make64 rfl rfl rfl) ?_
  have hS1 := apart_made hS0
  refine ⟨fun _ => hS1.2, ?_⟩
  simp only [Act.put, List.setIfInBounds_toArray, List.set_cons_zero, List.set_cons_succ]
  refine till_mono (S' := fun W => Blk W w11.drew.heap.size 5 (bcs zeroSec.1).toArray ∧ ApS R1 R2 gb B W) (fun _ h => h.2) _ _ _ _ ?_
  refine till_take (i := 22) (v := strV (zeroSec).1) rfl (by kernel_rfl) (by kernel_rfl) (fun _ _ _ h => h) (.inl ⟨by rfl, fun W hW => exec_str rfl rfl zeroSec.2 (range_blk hW.1)⟩) hS1 ?_
  simp only [Act.put, List.setIfInBounds_toArray, List.set_cons_zero, List.set_cons_succ]
  refine till_take (i := 23) (v := .bool true) rfl (by kernel_rfl) (by kernel_rfl) (fun _ _ _ h => h) (.inl ⟨by rfl, fun W hW => (exec_seql (l := zeroSec.1) (m := zeroSec.1) rfl rfl rfl).trans (by simp)⟩) hS1 ?_
  simp only [Act.put, List.setIfInBounds_toArray, List.set_cons_zero, List.set_cons_succ]
  refine till_take (i := 24) (v := .bool true) rfl (by kernel_rfl) (by kernel_rfl) (fun _ _ _ h => h) (.inl ⟨by rfl, fun W hW => by go_simp⟩) hS1 ?_
  simp only [Act.put, List.setIfInBounds_toArray, List.set_cons_zero, List.set_cons_succ]
  refine till_take (i := 25) (v := .bool true) rfl (by kernel_rfl) (by kernel_rfl) (fun _ _ _ h => h) (.inl ⟨by rfl, fun W hW => exec_move rfl rfl⟩) hS1 ?_
  simp only [Act.put, List.setIfInBounds_toArray, List.set_cons_zero, List.set_cons_succ]
  refine till_take (i := 26) (v := .slice (some ⟨R2, 0, none⟩) 64 64) rfl (by kernel_rfl) (by kernel_rfl) (fun _ _ _ h => h) (.inl ⟨by rfl, fun W hW => exec_move rfl rfl⟩) hS1 ?_
  simp only [Act.put, List.setIfInBounds_toArray, List.set_cons_zero, List.set_cons_succ]
  refine till_take (i := 27) (v := strV B.1) rfl (by kernel_rfl) (by kernel_rfl) (fun _ _ _ h => h) (.inl ⟨by rfl, fun W hW => exec_str rfl rfl B.2 (range_blk hW.2.2.1)⟩) hS1 ?_
  simp only [Act.put, List.setIfInBounds_toArray, List.set_cons_zero, List.set_cons_succ]
  refine till_take (i := 28) (v := .slice (some ⟨gb, 0, none⟩) 64 64) rfl (by kernel_rfl) (by kernel_rfl) (fun _ _ _ h => h) (.inl ⟨by rfl, fun W hW => exec_move rfl rfl⟩) hS1 ?_
  simp only [Act.put, List.setIfInBounds_toArray, List.set_cons_zero, List.set_cons_succ]
  refine till_take (i := 29) (v := strV B.1) rfl (by kernel_rfl) (by kernel_rfl) (fun _ _ _ h => h) (.inl ⟨by rfl, fun W hW => exec_str rfl rfl B.2 (range_blk hW.2.2.2)⟩) hS1 ?_
  simp only [Act.put, List.setIfInBounds_toArray, List.set_cons_zero, List.set_cons_succ]
  refine till_take (i := 30) (v := .bool true) rfl (by kernel_rfl) (by kernel_rfl) (fun _ _ _ h => h) (.inl ⟨by rfl, fun W hW => (exec_seql (l := B.1) (m := B.1) rfl rfl rfl).trans (by simp)⟩) hS1 ?_
  simp only [Act.put, List.setIfInBounds_toArray, List.set_cons_zero, List.set_cons_succ]
  refine till_take (i := 31) (v := .bool true) rfl (by kernel_rfl) (by kernel_rfl) (fun _ _ _ h => h) (.inl ⟨by rfl, fun W hW => by go_simp⟩) hS1 ?_
  simp only [Act.put, List.setIfInBounds_toArray, List.set_cons_zero, List.set_cons_succ]
  refine till_take (i := 32) (v := .bool true) rfl (by kernel_rfl) (by kernel_rfl) (fun _ _ _ h => h) (.inl ⟨by rfl, fun W hW => exec_move rfl rfl⟩) hS1 ?_
  simp only [Act.put, List.setIfInBounds_toArray, List.set_cons_zero, List.set_cons_succ]
  refine till_take (i := 33) (v := .pointer (some ⟨p, 0, none⟩)) rfl (by kernel_rfl) (by kernel_rfl) (fun _ _ _ h => h) (.inl ⟨by rfl, fun W hW => exec_move rfl rfl⟩) hS1 ?_
  simp only [Act.put, List.setIfInBounds_toArray, List.set_cons_zero, List.set_cons_succ]
  refine till_step (i := 34) (by kernel_rfl) rfl rfl ?_
  intro K1 HK1
  go_wp2_with fail
  have HS2 := (HS.out.still ((Turn.refl nowhere _).drew)).still ((Turn.refl nowhere _).alloc (.cells (bcs zeroSec.1).toArray 5))
  refine (aps HS2).mono ?_
  rintro e w12 ⟨rfl, rfl⟩
  refine HK1.out _ _ ⟨fun _ => hS1, ?_⟩
  clear HK1
  refine till_take (i := 35) (v := .bool true) rfl (by kernel_rfl) (by kernel_rfl) (fun _ _ _ h => h) (.inl ⟨by rfl, fun W hW => by go_simp⟩) hS1 ?_
  simp only [Act.put, List.setIfInBounds_toArray, List.set_cons_zero, List.set_cons_succ]
  refine till_take (i := 36) (v := .bool true) rfl (by kernel_rfl) (by kernel_rfl) (fun _ _ _ h => h) (.inl ⟨by rfl, fun W hW => by go_simp⟩) hS1 ?_
  simp only [Act.put, List.setIfInBounds_toArray, List.set_cons_zero, List.set_cons_succ]
  refine till_tail 37 rfl (by kernel_rfl) ?_
  have HT2 := Lib.hid HS2.tr
  clear hS0 hS1 HS2
  go_wp2_with fail
  refine NoPanic.normal ?_
  go_wp2_with fail
  go_ret
  exact ⟨rfl, HT2.out.below (Nat.le_refl _) (fun _ _ e => e)⟩
end Go.Proofs.Ytgagjfiboomigaa
