/-
  WALK: groatlaw01.CrcSums returns true and writes nothing that was there. Conditions: the slice reads as bytes; the table holds its numbers.
-/
import Derived.Test.YtbdpedagaojjkaaDoorCrcShown
namespace Go.Proofs.YtbdpedagaojjkaaDoor
open Go.RowKit
set_option maxHeartbeats 400000 in
theorem crcSums_walkN (a : Option Addr) (len cap : Nat) (bs : List UInt8) (s : Nat) (w : World) (hb : Bs w a len bs) (hs : s < 4294967296) (ht : Tab w) :
    Calls Tryd.prog 3 #[.slice a len cap, .int .u32 (s : Int)] w fun e w' => e = .returned (.bool true) ∧ Below w.heap.size w w' := by
  go_enter Tryd.func3, Tryd.ntmps3
  go_wp2_with fail
  refine (shown_any w ht).mono ?_
  rintro e w1 ⟨rfl, b1⟩
  have hb1 := bs_below hb b1
  have ht1 := tab_below ht b1
  clear hb ht
  go_wp2_with fail
  refine (sum_all _ _ _ bs w1 hb1 ht1).mono ?_
  rintro e w2 ⟨rfl, rfl⟩
  go_wp2_with fail
  refine (rsum_all _ _ _ bs w1 hb1).mono ?_
  rintro e w2 ⟨rfl, rfl⟩
  go_wp2_with fail
  refine (more_all s _ _ _ bs w1 hs hb1 ht1).mono ?_
  rintro e w2 ⟨rfl, rfl⟩
  go_wp2_with fail
  refine (rmore_all s _ _ _ bs w1 hs hb1).mono ?_
  rintro e w2 ⟨rfl, rfl⟩
  go_wp2_with fail
  go_ret
  exact ⟨rfl, b1⟩
theorem crcSums_walk (a : Option Addr) (len cap : Nat) (bs : List UInt8) (x : Int) (w : World) (hb : Bs w a len bs) (hx : (Lit.int .u32 x).wf = true) (ht : Tab w) :
    Calls Tryd.prog 3 #[.slice a len cap, .int .u32 x] w fun e w' => e = .returned (.bool true) ∧ Below w.heap.size w w' := by
  obtain ⟨n, rfl, hn⟩ := u32_nat hx
  exact crcSums_walkN a len cap bs n w hb hn ht
end Go.Proofs.YtbdpedagaojjkaaDoor
