/-
  groatlaw03's shown: the document's examples
-/
import Derived.Test.YteedjfgandgbkaaJa0
namespace Go.Proofs.Yteedjfgandgbkaa
open Go.RowKit Go.Maps
set_option linter.unusedVariables false
def nd : AD := ⟨0, fun _ => none, []⟩
def sh0 : AP := AP.new [4]
def sh1 : AP := sh0.put 0 (sh0.ds.getD 0 nd) 0 (fullS 1)
def sh2 : AP := sh1.put 0 (sh1.ds.getD 0 nd) 0 (fullS 2)
def sh3 : AP := sh2.boot [1, 2]
def sh4 : AP := { sh3 with fuse := 0 }
def dsh : AD := sh3.ds.getD 0 nd
theorem dsh_n : dsh.n = 4 := by decide +kernel
theorem dsh_at : sh3.ds[0]? = some dsh := by kernel_rfl
theorem dsh_read : (dsh.read 0).1 = (fullS 2).1.take 32 ++ (fullS 1).1.drop 32 := by decide +kernel
theorem sh5_steps : sh4.burn.steps = 2 := by decide +kernel
theorem full1 (w : World) : Calls Try.prog 21 #[.int .u8 1] w fun e w' =>
    ∃ g, e = .returned (.slice (some ⟨g, 0, none⟩) 64 64) ∧ w.heap.size ≤ g ∧ Blk w' g 5 (bcs (fullS 1).1).toArray ∧ Turn nowhere w w' := full_walk 1 w
theorem full2 (w : World) : Calls Try.prog 21 #[.int .u8 2] w fun e w' =>
    ∃ g, e = .returned (.slice (some ⟨g, 0, none⟩) 64 64) ∧ w.heap.size ≤ g ∧ Blk w' g 5 (bcs (fullS 2).1).toArray ∧ Turn nowhere w w' := full_walk 2 w
theorem sizes4 : sizesOk [4] := ⟨by decide, by decide, by decide⟩
section
variable {w0 w : World} {L : Nat → Prop} {p g c : Nat} {t : TypeId}
theorem shw1 (h : St w0 L w p sh0 0) (hb : Blk w g t (bcs (fullS 1).1).toArray) : Calls Try.prog 11 #[.pointer (some ⟨p, 0, none⟩), .int .i64 0, .int .i64 0, .slice (some ⟨g, 0, none⟩) 64 c] w fun e w' => e = .returned (.int .i64 0) ∧ St w0 L w' p sh1 1 ∧ Turn (kept L) w w' :=
  st_write h 0 (dev := 0) rfl (sh0.ds.getD 0 nd) rfl rfl 0 (by decide) (by decide) (fullS 1) hb (by omega)
theorem shw2 (h : St w0 L w p sh1 1) (hb : Blk w g t (bcs (fullS 2).1).toArray) : Calls Try.prog 11 #[.pointer (some ⟨p, 0, none⟩), .int .i64 0, .int .i64 0, .slice (some ⟨g, 0, none⟩) 64 c] w fun e w' => e = .returned (.int .i64 0) ∧ St w0 L w' p sh2 2 ∧ Turn (kept L) w w' :=
  st_write h 0 (dev := 0) rfl (sh1.ds.getD 0 nd) rfl rfl 0 (by decide) (by decide) (fullS 2) hb (by omega)
theorem shb (h : St w0 L w p sh2 2) (hb : Blk w g t (intsC [1, 2])) (hg : L g) : Calls Try.prog 18 #[.pointer (some ⟨p, 0, none⟩), .slice (some ⟨g, 0, none⟩) 2 c] w fun e w' => e = .returned (.tuple #[]) ∧ St w0 L w' p sh3 2 ∧ Turn (kept L) w w' :=
  st_boot h [1, 2] (n := 2) hb hg rfl (by decide) (by omega)
theorem shr (h : St w0 L w p sh3 2) : Calls Try.prog 15 #[.pointer (some ⟨p, 0, none⟩), .int .i64 0, .int .i64 0] w fun e w' =>
      ∃ R, e = .returned (.tuple #[.slice (some ⟨R, 0, none⟩) 64 64, .int .i64 0]) ∧ w.heap.size ≤ R ∧ Blk w' R 63 (bcs ((fullS 2).1.take 32 ++ (fullS 1).1.drop 32)).toArray ∧ Turn nowhere w w' := by
  have h := st_read h 0 (dev := 0) rfl dsh dsh_at rfl 0 (by rw [dsh_n]; decide)
  rwa [dsh_read] at h
theorem shf (h : St w0 L w p sh3 2) : Calls Try.prog 16 #[.pointer (some ⟨p, 0, none⟩), .int .i64 0] w fun e w' => e = .returned (.tuple #[]) ∧ St w0 L w' p sh4 2 ∧ Turn (kept L) w w' :=
  st_fuse h 0 (by decide)
theorem shl (h : St w0 L w p sh4 2) : Calls Try.prog 13 #[.pointer (some ⟨p, 0, none⟩), .int .i64 0] w fun e w' => e = .returned (.int .i64 2) ∧ St w0 L w' p sh4.burn 2 ∧ Turn (kept L) w w' :=
  st_flush_burn h 0 (dev := 0) rfl dsh dsh_at rfl rfl
theorem sho (h : St w0 L w p sh4.burn 2) : Calls Try.prog 22 #[.pointer (some ⟨p, 0, none⟩)] w fun e w' => e = .returned (.bool false) ∧ w = w' := st_on h
theorem shs (h : St w0 L w p sh4.burn 2) : Calls Try.prog 23 #[.pointer (some ⟨p, 0, none⟩)] w fun e w' => e = .returned (.int .i64 2) ∧ w = w' := by
  have h' := st_steps h
  rwa [sh5_steps] at h'
theorem shn (w : World) (g : Nat) (hb : Blk w g t (intsC [4])) (h0 : Turn nowhere w0 w) : Calls Try.prog 5 #[.slice (some ⟨g, 0, none⟩) 1 1] w fun e w' => ∃ p, e = .returned (.tuple #[.pointer (some ⟨p, 0, none⟩), .int .i64 0]) ∧ St w0 (fun k => k < w0.heap.size) w' p sh0 0 ∧ Turn nowhere w w' :=
  st_new hb rfl sizes4 h0
theorem shk (h : St w0 L w p sh2 2) (o : Obj) : St w0 (fun k => L k ∨ k = w.heap.size) (w.alloc o) p sh2 2 := h.keep ((Turn.refl nowhere _).alloc o) (Nat.le_refl _) (by simp)
end
attribute [local irreducible] sh0 sh1 sh2 sh3 sh4 AP.burn fullS
theorem slice_to (g : Nat) (W : World) : (Instr.sliceAt 36 (.slice (some ⟨g, 0, none⟩) 64 64) none (some (.int .i64 32)) none).run Try.prog W = .ok (.slice (some ⟨g, 0, none⟩) 32 64) W := by kernel_rfl
theorem slice_from (g : Nat) (W : World) : (Instr.sliceAt 36 (.slice (some ⟨g, 0, none⟩) 64 64) (some (.int .i64 32)) none none).run Try.prog W = .ok (.slice (some ⟨g, 32, none⟩) 32 32) W := by kernel_rfl
set_option maxHeartbeats 1000000 in
theorem shown_walk (w : World) : Calls Try.prog 4 #[] w fun e w' => e = .returned (.bool true) ∧ Turn nowhere w w' := by
  go_enter Try.func4, Try.ntmps4
  go_upto_region 8 with (first
    | (go_at_call 5; refine (shn (w0 := w) _ _ (Blk.new w _ _) ((Turn.refl _ w).alloc _)).mono ?_; rintro e w1 ⟨p, rfl, hs, ht⟩; have HS := Lib.hid hs; clear hs ht)
    | (go_at_call 21; (first | (have h0 : St w _ _ p sh0 0 := HS.out; refine (full1 _).mono ?_; clear h0) | (have h0 : St w _ _ p sh1 1 := HS.out; refine (full2 _).mono ?_; clear h0)); rintro e w2 ⟨g, rfl, hsz, hb, ht⟩; have HS := Lib.hid (HS.out.still ht); have HB := Lib.hid hb; clear hb ht hsz)
    | (go_at_call 11; (first | (have h0 : St w _ _ p sh0 0 := HS.out; refine (shw1 h0 HB.out).mono ?_; clear h0) | (have h0 : St w _ _ p sh1 1 := HS.out; refine (shw2 h0 HB.out).mono ?_; clear h0)); rintro e w3 ⟨rfl, hs, ht⟩; have HS := Lib.hid hs; clear hs ht)
    | (go_at_call 18; refine (shb (shk HS.out _) (Blk.new _ _ _) (.inr rfl)).mono ?_; rintro e w4 ⟨rfl, hs, ht⟩; have HS := Lib.hid hs; clear hs ht)
    | (go_at_call 15; refine (shr HS.out).mono ?_; rintro e w5 ⟨R, rfl, hsz, hb, ht⟩; have HS := Lib.hid (HS.out.still ht); have HR := Lib.hid hb; clear hb ht hsz))
  generalize hlR : (fullS 2).1.take 32 ++ (fullS 1).1.drop 32 = lR at *
  have hll : lR.length = 64 := by rw [← hlR]; simp [(fullS 2).2, (fullS 1).2]
  have HL := Lib.hid hlR
  clear hlR
  refine wp_region_till (fun W => Blk W R 63 (bcs lR).toArray) 10 (by kernel_rfl) ?_
  have hS0 : Blk w5.drew R 63 (bcs lR).toArray := HR.out
  refine till_take (i := 0) (v := .slice (some ⟨R, 0, none⟩) 64 64) rfl (by kernel_rfl) (by kernel_rfl) (fun _ _ _ h => h) (.inl ⟨by rfl, fun W hW => exec_move rfl rfl⟩) hS0 ?_
  simp only [Act.put, List.setIfInBounds_toArray, List.set_cons_zero, List.set_cons_succ]
  refine till_take (i := 1) (v := strV lR) rfl (by kernel_rfl) (by kernel_rfl) (fun _ _ _ h => h) (.inl ⟨by rfl, fun W hW => exec_str rfl rfl hll (range_blk hW)⟩) hS0 ?_
  simp only [Act.put, List.setIfInBounds_toArray, List.set_cons_zero, List.set_cons_succ]
  refine till_step (i := 2) (by kernel_rfl) rfl rfl ?_
  intro K1 HK1
  go_wp2_with fail
  refine (full2 _).mono ?_
  rintro e w6 ⟨g6, rfl, hz6, hb6, ht6⟩
  have hR6 := hS0.turn ht6 (fun e => e)
  refine HK1.out _ _ ⟨fun _ => hR6, ?_⟩
  clear HK1
  refine till_mono (S' := fun W => Blk W R 63 (bcs lR).toArray ∧ Blk W g6 5 (bcs (fullS 2).1).toArray) (fun _ h => h.1) _ _ _ _ ?_
  have hS1 : Blk w6 R 63 (bcs lR).toArray ∧ Blk w6 g6 5 (bcs (fullS 2).1).toArray := ⟨hR6, hb6⟩
  refine till_take (i := 3) (v := .slice (some ⟨g6, 0, none⟩) 32 64) rfl (by kernel_rfl) (by kernel_rfl) (fun _ _ _ h => h) (.inl ⟨by rfl, fun W hW => exec_slice rfl rfl rfl rfl rfl (slice_to g6 W)⟩) hS1 ?_
  simp only [Act.put, List.setIfInBounds_toArray, List.set_cons_zero, List.set_cons_succ]
  refine till_take (i := 4) (v := strV ((fullS 2).1.take 32)) rfl (by kernel_rfl) (by kernel_rfl) (fun _ _ _ h => h) (.inl ⟨by rfl, fun W hW => exec_str rfl rfl (by simp [(fullS 2).2]) (range_take (range_blk hW.2) 32)⟩) hS1 ?_
  simp only [Act.put, List.setIfInBounds_toArray, List.set_cons_zero, List.set_cons_succ]
  refine till_step (i := 5) (by kernel_rfl) rfl rfl ?_
  intro K1 HK1
  go_wp2_with fail
  refine (full1 _).mono ?_
  rintro e w7 ⟨g7, rfl, hz7, hb7, ht7⟩
  have hR7 : Blk w7 R 63 (bcs lR).toArray ∧ Blk w7 g6 5 (bcs (fullS 2).1).toArray := ⟨hR6.turn ht7 (fun e => e), hb6.turn ht7 (fun e => e)⟩
  refine HK1.out _ _ ⟨fun _ => hR7, ?_⟩
  clear HK1
  refine till_mono (S' := fun W => Blk W g7 5 (bcs (fullS 1).1).toArray ∧ (Blk W R 63 (bcs lR).toArray ∧ Blk W g6 5 (bcs (fullS 2).1).toArray)) (fun _ h => h.2) _ _ _ _ ?_
  have hS2 : Blk w7 g7 5 (bcs (fullS 1).1).toArray ∧ (Blk w7 R 63 (bcs lR).toArray ∧ Blk w7 g6 5 (bcs (fullS 2).1).toArray) := ⟨hb7, hR7⟩
  refine till_take (i := 6) (v := .slice (some ⟨g7, 32, none⟩) 32 32) rfl (by kernel_rfl) (by kernel_rfl) (fun _ _ _ h => h) (.inl ⟨by rfl, fun W hW => exec_slice rfl rfl rfl rfl rfl (slice_from g7 W)⟩) hS2 ?_
  simp only [Act.put, List.setIfInBounds_toArray, List.set_cons_zero, List.set_cons_succ]
  refine till_take (i := 7) (v := strV ((fullS 1).1.drop 32)) rfl (by kernel_rfl) (by kernel_rfl) (fun _ _ _ h => h) (.inl ⟨by rfl, fun W hW => exec_str rfl rfl (by simp [(fullS 1).2]) (by have h := range_drop (range_blk hW.1) 32; rwa [Nat.zero_add] at h)⟩) hS2 ?_
  simp only [Act.put, List.setIfInBounds_toArray, List.set_cons_zero, List.set_cons_succ]
  refine till_take (i := 8) (v := strV ((fullS 2).1.take 32 ++ (fullS 1).1.drop 32)) rfl (by kernel_rfl) (by kernel_rfl) (fun _ _ _ h => h) (.inl ⟨by rfl, fun W hW => exec_sadd rfl rfl rfl (by simp [(fullS 1).2, (fullS 2).2])⟩) hS2 ?_
  simp only [Act.put, List.setIfInBounds_toArray, List.set_cons_zero, List.set_cons_succ]
  refine till_take (i := 9) (v := .bool true) rfl (by kernel_rfl) (by kernel_rfl) (fun _ _ _ h => h) (.inl ⟨by rfl, fun W hW => (exec_seql (l := lR) (m := (fullS 2).1.take 32 ++ (fullS 1).1.drop 32) rfl rfl rfl).trans (by rw [HL.out]; simp)⟩) hS2 ?_
  simp only [Act.put, List.setIfInBounds_toArray, List.set_cons_zero, List.set_cons_succ]
  refine till_tail 10 rfl (by kernel_rfl) ?_
  have HS := Lib.hid (((HS.out.still ((Turn.refl nowhere _).drew)).still ht6).still ht7)
  clear hS2 hR7 hS1 hR6 hS0 hb7 hb6 ht6 ht7 hz6 hz7 HL
  go_wp2_with fail
  refine NoPanic.normal ?_
  go_wp2_with (first
    | (go_at_call 16; refine (shf HS.out).mono ?_; rintro e w8 ⟨rfl, hs, ht⟩; have HS := Lib.hid hs; clear hs ht)
    | (go_at_call 13; refine (shl HS.out).mono ?_; rintro e w9 ⟨rfl, hs, ht⟩; have HS := Lib.hid hs; clear hs ht)
    | (go_at_call 22; refine (sho HS.out).mono ?_; rintro e w10 ⟨rfl, rfl⟩)
    | (go_at_call 23; refine (shs HS.out).mono ?_; rintro e w11 ⟨rfl, rfl⟩))
  go_ret
  exact ⟨rfl, HS.out.tr⟩
end Go.Proofs.Yteedjfgandgbkaa
