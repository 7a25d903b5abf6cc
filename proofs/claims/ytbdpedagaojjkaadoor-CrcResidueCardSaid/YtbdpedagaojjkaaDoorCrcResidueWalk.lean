/-
  WALK: groatlaw01.CrcResidue returns true and writes nothing that was there. Conditions: the slice reads as bytes, at most 2^47 - 4 of them; the table holds its numbers.
-/
import Derived.Test.YtbdpedagaojjkaaDoorCrcShown
import Derived.Test.YtbdpedagaojjkaaDoorAppend
namespace Go.Proofs.YtbdpedagaojjkaaDoor
open Go.RowKit
theorem byteInfo7 : (Tryd.prog.info? 5).map (fun i => (i.zero, i.size, i.bytes)) = some (some (.int .u8 0), 1, 1) := by kernel_rfl
theorem tail_cells (s : Nat) (h : s < 4294967296) : #[Value.int .u8 ((s : Int) % 256), Value.int .u8 ((s : Int) / 256 % 256), Value.int .u8 ((s : Int) / 65536 % 256), Value.int .u8 ((s : Int) / 16777216)] = byteCells (Crc.tailN s) := by
  have hs : (BitVec.ofNat 32 s).toNat = s := by rw [BitVec.toNat_ofNat]; exact Nat.mod_eq_of_lt h
  have e : ∀ k : Nat, ((UInt8.ofNat k).toNat : Int) = (k : Int) % 256 := fun k => by simp
  unfold byteCells Crc.tailN Crc.tail Crc.low
  rw [hs]
  simp only [List.map_cons, List.map_nil, e]
  have h0 : ((s / 2 ^ (8 * 0) : Nat) : Int) % 256 = (s : Int) % 256 := by simp
  have h1 : ((s / 2 ^ (8 * 1) : Nat) : Int) % 256 = (s : Int) / 256 % 256 := by omega
  have h2 : ((s / 2 ^ (8 * 2) : Nat) : Int) % 256 = (s : Int) / 65536 % 256 := by omega
  have h3 : ((s / 2 ^ (8 * 3) : Nat) : Int) % 256 = (s : Int) / 16777216 := by omega
  rw [h0, h1, h2, h3]
set_option maxHeartbeats 400000 in
theorem crcResidue_walk (a : Option Addr) (len cap : Nat) (bs : List UInt8) (w : World) (hb : Bs w a len bs) (hc : a = none → cap = 0)
    (hsum : len ≤ 140737488351232) (ht : Tab w) :
    Calls Tryd.prog 7 #[.slice a len cap] w fun e w' => e = .returned (.bool true) ∧ Below w.heap.size w w' := by
  have L1 : Hid (bs.length = len) := hb.1
  have hsl := Crc.sumN_lt bs
  go_enter Tryd.func7, Tryd.ntmps7
  go_wp2_with fail
  refine (shown_any w ht).mono ?_
  rintro e w1 ⟨rfl, b1⟩
  have hb := bs_below hb b1
  have ht := tab_below ht b1
  have hz := b1.size
  go_wp2_with fail
  refine (sum_all _ _ _ bs w1 hb ht).mono ?_
  rintro e w4 ⟨rfl, rfl⟩
  obtain ⟨s, Hs⟩ : ∃ s, Hid (Crc.sumN bs = s) := ⟨_, Lib.hid rfl⟩
  rw [Hs.out] at hsl ⊢
  go_wp2_with fail
  rw [tail_cells s hsl]
  have hnew := bs_new w1 (Crc.tailN s) 5 (0, 0) _ rfl (by simp [Crc.tailN, Crc.tail, maxLen])
  have hbel := below_new w1 (.cells (byteCells (Crc.tailN s)) 5)
  rw [show (Crc.tailN s).length = 4 from rfl] at hnew
  generalize (w1.alloc (.cells (byteCells (Crc.tailN s)) 5)) = w2 at *
  have hb2 := bs_below hb hbel
  have ht2 := tab_below ht hbel
  have hz2 := hbel.size
  have hf2 := b1.trans (hbel.mono hz)
  clear hb ht b1 hbel
  refine (more_all s _ _ _ (Crc.tailN s) w2 hsl hnew ht2).mono ?_
  rintro e w4 ⟨rfl, rfl⟩
  rw [Crc.moreN_tail]
  go_wp2_with (first
    | (at_builtin
       refine wpList_append_bytes _ rfl (.tmp 29) (.tmp 30) _ rfl w2.heap.size 5 byteInfo7 Tryd.underlying22 _ [] rfl (Own.empty w2 _ _ (Nat.le_refl _)) a len cap bs rfl (bs_below hb2 (below_new _ _)) hc ?_ ?_ ?_
       · simp only [List.length_nil]; omega
       · simp
       intro v5 w5 hown5 hbel5
       have hB5 : Below w2.heap.size w2 w5 := (below_new w2 (.cells #[] 5)).trans hbel5
       have hb5 := bs_below hnew hB5)
    | (at_builtin
       refine wpList_append_bytes _ rfl (.tmp 31) (.tmp 32) _ rfl w2.heap.size 5 byteInfo7 Tryd.underlying22 v5 ([] ++ bs) rfl hown5 _ 4 4 (Crc.tailN s) rfl hb5 (fun h => by cases h) ?_ ?_ ?_
       · rw [List.nil_append, L1.out]; omega
       · exact hB5.size
       intro v6 w6 hown6 hbel6)
    | fail)
  have hB6 := hB5.trans (hbel6.mono (Nat.le_refl _))
  have hT := tab_below ht2 hB6
  obtain ⟨a6, n6, c6, rfl, hb6, _, _⟩ := hown6.form
  have hfin := hf2.trans (hB6.mono (Nat.le_trans hz hz2))
  clear hb2 hb5 ht2 hB5 hB6 hbel5 hbel6 hown5 hown6 hf2 hnew
  rw [List.nil_append] at hb6
  refine (sum_all _ _ _ (bs ++ Crc.tailN s) w6 hb6 hT).mono ?_
  rintro e w7 ⟨rfl, rfl⟩
  have hv : Crc.sumN (bs ++ Crc.tailN s) = 1214729159 := by rw [← Hs.out]; exact Crc.sumN_tail bs
  rw [hv]
  clear hv
  go_wp2_with fail
  go_ret
  exact ⟨rfl, hfin⟩
end Go.Proofs.YtbdpedagaojjkaaDoor
