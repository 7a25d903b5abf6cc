/-
  CONTRACT: groatlaw01.shown hands back true, and writes nothing that was there. Condition: crc's table holds its sixteen numbers.
-/
import Derived.Test.YtbdpedagaojjkaaDoorCrcRef
import Derived.Below
import Derived.Lib.SlBytesConst
namespace Go.Proofs.YtbdpedagaojjkaaDoor
open Go.RowKit
theorem tab_below {w w' : World} (ht : Tab w) (hb : Below w.heap.size w w') : Tab w' := by
  intro k hk
  rw [hb.cell (World.block_lt_of_cell? _ _ (ht k hk))]
  exact ht k hk
set_option maxHeartbeats 400000 in
theorem shown_any (w : World) (ht : Tab w) :
    Calls Tryd.prog 8 #[] w fun e w' => e = .returned (.bool true) ∧ Below w.heap.size w w' := by
  have kc := fun (w : World) (C : Array Value) (n c : Nat) => Lib.run_convert_bytes_const (P := Tryd.prog) w 22 5 C n c Tryd.underlying22 Tryd.underlying5
  go_enter Tryd.func8, Tryd.ntmps8
  go_wp2_with fail
  have b1 := below_new w (.cells (byteCells [49, 50, 51, 52, 53, 54, 55, 56, 57]) 5 (9, 10))
  have n1 := bs_new w [49, 50, 51, 52, 53, 54, 55, 56, 57] 5 (9, 10) _ rfl (by unfold maxLen; simp)
  have z1 : (w.alloc (.cells (byteCells [49, 50, 51, 52, 53, 54, 55, 56, 57]) 5 (9, 10))).heap.size = w.heap.size + 1 := by simp
  refine (sum_all _ _ _ [49, 50, 51, 52, 53, 54, 55, 56, 57] (w.alloc (.cells (byteCells [49, 50, 51, 52, 53, 54, 55, 56, 57]) 5 (9, 10))) n1 (tab_below ht b1)).mono ?_
  clear n1
  generalize (w.alloc (.cells (byteCells [49, 50, 51, 52, 53, 54, 55, 56, 57]) 5 (9, 10))) = w1 at *
  rintro e w2 ⟨rfl, rfl⟩
  rw [Crc.shownN1]
  clear kc
  go_wp2_with fail
  have b2 := b1.trans ((below_new w1 (.cells (byteCells [0]) 5)).mono b1.size)
  refine (sum_all _ _ _ [0] (w1.alloc (.cells (byteCells [0]) 5)) (bs_new w1 [0] _ _ _ z1.symm (by unfold maxLen; simp)) (tab_below ht b2)).mono ?_
  clear b1 z1
  generalize (w1.alloc (.cells (byteCells [0]) 5)) = w3 at *
  rintro e w4 ⟨rfl, rfl⟩
  rw [Crc.shownN2]
  go_wp2_with fail
  refine (sum_all _ _ _ [] w3 (bs_nil _ _) (tab_below ht b2)).mono ?_
  rintro e w4 ⟨rfl, rfl⟩
  rw [Crc.shownN0]
  go_wp2_with fail
  refine (more_all 3808858755 _ _ _ [] w3 (by omega) (bs_nil _ _) (tab_below ht b2)).mono ?_
  rintro e w4 ⟨rfl, rfl⟩
  rw [Crc.moreN_nil _ (by omega)]
  go_wp2_with fail
  go_ret
  exact ⟨rfl, b2⟩
end Go.Proofs.YtbdpedagaojjkaaDoor
