/-
  CONTRACTS: crc.More, crc.Sum, groatref01.More, groatref01.Sum hand back the check sum of the bytes that they are given, and write nothing. Conditions: the bytes lie where the slice says; of crc's two: the table holds its sixteen numbers.
-/
import Derived.Test.YtbdpedagaojjkaaDoorProg
import Derived.Test.YtbdpedagaojjkaaDoorCrcBits
import Derived.Test.YtbdpedagaojjkaaDoorBytes
import Derived.Lib.Hide
namespace Go.Proofs.YtbdpedagaojjkaaDoor
open Go.RowKit
/-- the table's cells -/
def Tab (w : World) : Prop := ∀ k, k < 16 → w.cell? ⟨0, k, none⟩ = some (.int .u32 ((Crc.tab.getD k 0 : Nat) : Int))
set_option maxHeartbeats 400000 in
theorem more_some (s : Nat) (b off len cap : Nat) (bs : List UInt8) (w : World) (hs : s < 4294967296) (hl : bs.length = len) (hm : len ≤ maxLen)
    (hc : ∀ i, i < len → w.cell? ⟨b, off + i, none⟩ = some (.int .u8 ((bs.getD i 0).toNat : Int))) (ht : Tab w) :
    Calls Tryd.prog 11 #[.int .u32 (s : Int), .slice (some ⟨b, off, none⟩) len cap] w fun e w' => e = .returned (.int .u32 ((Crc.moreN s bs : Nat) : Int)) ∧ w = w' := by
  unfold maxLen at hm
  have hn := bnot s hs
  have hnl := Crc.notN_lt s
  go_enter Tryd.func11, Tryd.ntmps11
  go_wp2
  go_loop [5, 12] (fun r i => ∃ k n : Nat, k ≤ len ∧ i = .int .i64 k ∧ r = .int .u32 (n : Int) ∧ n < 4294967296 ∧ Hid (n = Crc.regN (Crc.notN s) (bs.take k))) (fun _ i => len - (intOf i).toNat)
  case atStart => exact ⟨0, Crc.notN s, Nat.zero_le _, rfl, rfl, hnl, Lib.hid (by rw [List.take_zero, Crc.regN_nil _ hnl])⟩
  case round =>
    obtain ⟨k, n, hk, rfl, rfl, hnn, Hn⟩ := hrel
    by_cases hlt : k < len
    · have hx := hc k hlt
      have Hs : Hid (bs.take (k + 1) = bs.take k ++ [bs.getD k 0]) := by
        rw [List.take_succ_eq_append_getElem (by omega)]
        rw [List.getD_eq_getElem?_getD, List.getElem?_eq_getElem (by omega)]
        exact Lib.hid rfl
      generalize (bs.getD k 0) = x at hx Hs
      clear hc
      have hxl : x.toNat < 256 := x.toNat_lt
      have h1 := bxor n x.toNat hnn (by omega)
      have hal := Crc.xor_lt n hnn x
      obtain ⟨a, Ha⟩ : ∃ a, Hid (a = n ^^^ x.toNat) := ⟨_, Lib.hid rfl⟩
      rw [← Ha.out] at h1 hal
      obtain ⟨i1, t1, c1, e1, l1, g1, e2, H1, cl1⟩ := byTab a hal
      obtain ⟨i2, t2, c2, e3, l2, g2, e4, H2, cl2⟩ := byTab c1 cl1
      have w1 := ht i1 l1
      have w2 := ht i2 l2
      rw [g1] at w1
      rw [g2] at w2
      clear g1 g2
      go_wp2
      go_round
      case rel => exact ⟨k + 1, c2, by omega, by go_num, rfl, cl2, Lib.hid (by rw [Hs.out, Crc.regN_snoc, ← Hn.out, Crc.regN_one _ hnn, H2.out, H1.out, Ha.out])⟩
      case measure => simp [intOf]; omega
    · have hn2 := bnot n hnn
      have hr : Crc.regN (Crc.notN s) (bs.take k) = Crc.regN (Crc.notN s) bs := by rw [List.take_of_length_le (by omega)]
      have HR := Lib.hid hr
      clear hr
      go_wp2
      go_ret
      exact ⟨ret_int (by rw [Crc.moreN_eq s hs, ← HR.out, ← Hn.out]), rfl⟩
set_option maxHeartbeats 400000 in
theorem more_none (s : Nat) (a : Option Addr) (cap : Nat) (w : World) (hs : s < 4294967296) :
    Calls Tryd.prog 11 #[.int .u32 (s : Int), .slice a 0 cap] w fun e w' => e = .returned (.int .u32 ((Crc.moreN s [] : Nat) : Int)) ∧ w = w' := by
  have hn := bnot s hs
  have hnl := Crc.notN_lt s
  have hn2 := bnot _ hnl
  have Hb : Hid (Crc.notN (Crc.notN s) = s) := by unfold Crc.notN; exact Lib.hid (by omega)
  go_enter Tryd.func11, Tryd.ntmps11
  go_wp2
  go_loop [5, 12] (fun r i => i = .int .i64 0 ∧ r = .int .u32 ((Crc.notN s : Nat) : Int)) (fun _ _ => 0)
  case atStart => exact ⟨rfl, rfl⟩
  case round =>
    obtain ⟨rfl, rfl⟩ := hrel
    go_wp2
    go_ret
    exact ⟨ret_int (by rw [Crc.moreN_nil s hs, Hb.out]), rfl⟩
theorem more_all (s : Nat) (a : Option Addr) (len cap : Nat) (bs : List UInt8) (w : World) (hs : s < 4294967296) (hb : Bs w a len bs) (ht : Tab w) :
    Calls Tryd.prog 11 #[.int .u32 (s : Int), .slice a len cap] w fun e w' => e = .returned (.int .u32 ((Crc.moreN s bs : Nat) : Int)) ∧ w = w' := by
  obtain ⟨hl, hm, hc⟩ := hb
  by_cases h : 0 < len
  · obtain ⟨b, off, rfl, hd⟩ := hc h
    exact more_some s b off len cap bs w hs hl hm hd ht
  · obtain rfl : len = 0 := by omega
    obtain rfl : bs = [] := List.eq_nil_of_length_eq_zero hl
    exact more_none s a cap w hs
theorem sum_all (a : Option Addr) (len cap : Nat) (bs : List UInt8) (w : World) (hb : Bs w a len bs) (ht : Tab w) :
    Calls Tryd.prog 9 #[.slice a len cap] w fun e w' => e = .returned (.int .u32 ((Crc.sumN bs : Nat) : Int)) ∧ w = w' := by
  have h := more_all 0 a len cap bs w (by omega) hb ht
  have H := Lib.hid h
  clear h
  go_enter Tryd.func9, Tryd.ntmps9
  go_wp2_with (go_at_call 11; refine H.out.mono ?_; rintro e w' ⟨rfl, rfl⟩)
  go_ret
  exact ⟨rfl, rfl⟩
end Go.Proofs.YtbdpedagaojjkaaDoor
