/-
  WALK: groatlaw01.CrcJoins returns true and writes nothing that was there. Conditions: the slices read as bytes, together at most 2^47 of them; the table holds its numbers.
-/
import Derived.Test.YtbdpedagaojjkaaDoorCrcShown
import Derived.Test.YtbdpedagaojjkaaDoorAppend
namespace Go.Proofs.YtbdpedagaojjkaaDoor
open Go.RowKit
theorem byteInfo : (Tryd.prog.info? 5).map (fun i => (i.zero, i.size, i.bytes)) = some (some (.int .u8 0), 1, 1) := by kernel_rfl
set_option maxHeartbeats 400000 in
theorem crcJoins_walkN (a : Option Addr) (len cap : Nat) (bs : List UInt8) (a1 : Option Addr) (len1 cap1 : Nat) (bs1 : List UInt8) (s : Nat) (w : World) (hb : Bs w a len bs) (hc : a = none → cap = 0) (hb1 : Bs w a1 len1 bs1) (hc1 : a1 = none → cap1 = 0) (hs : s < 4294967296) (ht : Tab w)
    (hsum : len + len1 ≤ 140737488355328) :
    Calls Tryd.prog 4 #[.slice a len cap, .slice a1 len1 cap1, .int .u32 (s : Int)] w fun e w' => e = .returned (.bool true) ∧ Below w.heap.size w w' := by
  have L1 : Hid (bs.length = len) := hb.1
  go_enter Tryd.func4, Tryd.ntmps4
  go_wp2_with fail
  refine (shown_any w ht).mono ?_
  rintro e w1 ⟨rfl, b1⟩
  have hb := bs_below hb b1
  have hb1 := bs_below hb1 b1
  have ht := tab_below ht b1
  have hz := b1.size
  go_wp2_with (first
    | (at_builtin
       refine wpList_append_bytes _ rfl (.tmp 12) (.tmp 13) _ rfl w1.heap.size 5 byteInfo Tryd.underlying22 _ [] rfl (Own.empty w1 _ _ (Nat.le_refl _)) a len cap bs rfl (bs_below hb (below_new _ _)) hc ?_ ?_ ?_
       · simp only [List.length_nil]; omega
       · simp
       intro v2 w2 hown2 hbel2
       have hB2 : Below w1.heap.size w1 w2 := (below_new w1 (.cells #[] 5)).trans hbel2
       have hb2 := bs_below hb1 hB2)
    | (at_builtin
       refine wpList_append_bytes _ rfl (.tmp 14) (.tmp 15) _ rfl w1.heap.size 5 byteInfo Tryd.underlying22 v2 ([] ++ bs) rfl hown2 a1 len1 cap1 bs1 rfl hb2 hc1 ?_ ?_ ?_
       · rw [List.nil_append, L1.out]; omega
       · exact hB2.size
       intro v3 w3 hown3 hbel3)
    | fail)
  have hB3 := hB2.trans (hbel3.mono (Nat.le_refl _))
  have hA := bs_below hb hB3
  have hA1 := bs_below hb1 hB3
  have hT := tab_below ht hB3
  obtain ⟨a3, n3, c3, rfl, hb3, _, _⟩ := hown3.form
  have hfin := b1.trans (hB3.mono hz)
  clear hb hb1 ht hb2 hB2 hbel2 hbel3 hown2 hown3 hB3 b1
  rw [List.nil_append] at hb3
  refine (more_all s _ _ _ bs w3 hs hA hT).mono ?_
  rintro e w4 ⟨rfl, rfl⟩
  go_wp2_with fail
  refine (more_all _ _ _ _ bs1 w3 (Crc.moreN_lt _ _) hA1 hT).mono ?_
  rintro e w4 ⟨rfl, rfl⟩
  go_wp2_with fail
  refine (sum_all _ _ _ bs w3 hA hT).mono ?_
  rintro e w4 ⟨rfl, rfl⟩
  go_wp2_with fail
  refine (more_all _ _ _ _ bs1 w3 (Crc.sumN_lt _) hA1 hT).mono ?_
  rintro e w4 ⟨rfl, rfl⟩
  go_wp2_with fail
  refine (more_all s _ _ _ (bs ++ bs1) w3 hs hb3 hT).mono ?_
  rintro e w4 ⟨rfl, rfl⟩
  rw [Crc.moreN_append]
  go_wp2_with fail
  refine (sum_all _ _ _ (bs ++ bs1) w3 hb3 hT).mono ?_
  rintro e w4 ⟨rfl, rfl⟩
  rw [Crc.sumN_append]
  go_wp2_with fail
  refine (more_all 0 _ _ _ bs1 w3 (by omega) hA1 hT).mono ?_
  rintro e w4 ⟨rfl, rfl⟩
  rw [← Crc.sumN_eq]
  go_wp2_with fail
  refine (sum_all _ _ _ bs1 w3 hA1 hT).mono ?_
  rintro e w4 ⟨rfl, rfl⟩
  go_wp2_with fail
  go_ret
  exact ⟨rfl, hfin⟩
theorem crcJoins_walk (a : Option Addr) (len cap : Nat) (bs : List UInt8) (a1 : Option Addr) (len1 cap1 : Nat) (bs1 : List UInt8) (x : Int) (w : World) (hb : Bs w a len bs) (hc : a = none → cap = 0) (hb1 : Bs w a1 len1 bs1) (hc1 : a1 = none → cap1 = 0) (hx : (Lit.int .u32 x).wf = true)
    (hsum : len + len1 ≤ 140737488355328) (ht : Tab w) :
    Calls Tryd.prog 4 #[.slice a len cap, .slice a1 len1 cap1, .int .u32 x] w fun e w' => e = .returned (.bool true) ∧ Below w.heap.size w w' := by
  obtain ⟨n, rfl, hn⟩ := u32_nat hx
  exact crcJoins_walkN a len cap bs a1 len1 cap1 bs1 n w hb hc hb1 hc1 hn ht hsum
end Go.Proofs.YtbdpedagaojjkaaDoor
