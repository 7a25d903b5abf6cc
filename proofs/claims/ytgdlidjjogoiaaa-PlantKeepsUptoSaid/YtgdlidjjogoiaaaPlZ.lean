/-
  groatlaw03's full and shown
-/
import Derived.Test.YtgdlidjjogoiaaaPlY
import Derived.Laws.BytesString
namespace Go.Proofs.Ytgdlidjjogoiaaa
open Go.RowKit Go.Maps
set_option linter.unusedVariables false
theorem byteInfo : (Try.prog.info? 5).map (fun i => (i.zero, i.size, i.bytes)) = some (some (.int .u8 0), 1, 1) := by kernel_rfl
def fullB (c : UInt8) (k : Nat) : List UInt8 := List.replicate k c ++ List.replicate (64 - k) 0
theorem fullB_len (c : UInt8) (k : Nat) (h : k ≤ 64) : (fullB c k).length = 64 := by simp [fullB]; omega
theorem fullB_set (c : UInt8) (k : Nat) (h : k < 64) : (fullB c k).set k c = fullB c (k + 1) := by
  unfold fullB
  rw [List.set_append_right _ _ (by simp), List.length_replicate, Nat.sub_self, show 64 - k = (64 - (k + 1)) + 1 from by omega, List.replicate_succ, List.set_cons_zero, List.replicate_succ']
  simp
def fullS (c : UInt8) : Sec := ⟨List.replicate 64 c, by simp⟩
set_option maxHeartbeats 1000000 in
theorem full_walk (c : UInt8) (w : World) : Calls Try.prog 24 #[.int .u8 (c.toNat : Int)] w fun e w' =>
    ∃ g, e = .returned (.slice (some ⟨g, 0, none⟩) 64 64) ∧ w.heap.size ≤ g ∧ Blk w' g 5 (bcs (fullS c).1).toArray ∧ Turn nowhere w w' := by
  have hc : (c.toNat : Int) < 256 := by have : c.toNat < 256 := c.toNat_lt; omega
  have hmk : ∀ W : World, (Instr.makeSlice 36 (.int .i64 64) (.int .i64 64)).run Try.prog W = .ok (.slice (some ⟨W.heap.size, 0, none⟩) 64 64) (W.alloc (.cells (bcs (fullB c 0)).toArray 5)) := fun W => by kernel_rfl
  go_enter Try.func24, Try.ntmps24
  go_wp2_with fail
  have hB := Blk.new w 5 (bcs (fullB c 0)).toArray
  have hT : Turn nowhere w _ := (Turn.refl _ w).alloc (.cells (bcs (fullB c 0)).toArray 5)
  generalize (w.alloc (.cells (bcs (fullB c 0)).toArray 5)) = w1 at *
  generalize hg : w.heap.size = g at *
  have HG := Lib.hid hg
  clear hg hmk
  go_loopg [4] 64 (fun gk i wr => ∃ k : Nat, k + gk = 64 ∧ i = .int .i64 (k : Int) ∧ Blk wr g 5 (bcs (fullB c k)).toArray ∧ Turn nowhere w wr)
  case atStart => exact ⟨0, rfl, rfl, hB, hT⟩
  case round =>
    obtain ⟨k, hk, rfl, hBk, hTk⟩ := hrel
    clear hB hT
    have HB := Lib.hid hBk
    have HT := Lib.hid hTk
    by_cases hlt : k < 64
    · have hcell : wr.cell? ⟨g, k, none⟩ = some (.int .u8 (((fullB c k).getD k 0).toNat : Int)) := by
        rw [hBk.cell]
        have := bcs_at (fullB c k) k (by rw [fullB_len c k (by omega)]; exact hlt)
        simpa using this
      have hf := hBk.frozen k
      clear hBk hTk
      have z1 : (0 : Int) ≤ (k : Int) := by omega
      have z2 : (k : Int) < 64 := by omega
      go_wp2
      go_roundg (gk - 1)
      case measure => omega
      case rel =>
        refine ⟨k + 1, by omega, by go_num, ?_, HT.out.setCell (p := ⟨g, k, none⟩) (fun hb => by have := HG.out; exact (by simp at hb; omega : False).elim) _⟩
        have := HB.out.set_ k (.int .u8 (c.toNat : Int))
        rwa [show (bcs (fullB c k)).toArray.setIfInBounds k (.int .u8 (c.toNat : Int)) = (bcs (fullB c (k + 1))).toArray from by
          rw [← fullB_set c k hlt]
          unfold bcs
          apply Array.ext'
          simp [List.map_set]] at this
    · obtain rfl : k = 64 := by omega
      clear hBk hTk
      go_wp2
      go_ret
      refine ⟨g, rfl, by rw [HG.out]; exact Nat.le_refl _, ?_, HT.out⟩
      have h := HB.out
      have e : fullB c 64 = (fullS c).1 := by simp [fullB, fullS]
      rwa [e] at h
end Go.Proofs.Ytgdlidjjogoiaaa
