/-
  CONTRACTS: groatref01.More and Sum hand back the check sum of the bytes that they are given, and write nothing. Condition: the bytes lie where the slice says.
-/
import Derived.Test.YtbdpedagaojjkaaDoorCrcMore
namespace Go.Proofs.YtbdpedagaojjkaaDoor
open Go.RowKit
set_option maxHeartbeats 800000 in
theorem rmore_some (s : Nat) (b off len cap : Nat) (bs : List UInt8) (w : World) (hs : s < 4294967296) (hl : bs.length = len) (hm : len ≤ maxLen)
    (hc : ∀ i, i < len → w.cell? ⟨b, off + i, none⟩ = some (.int .u8 ((bs.getD i 0).toNat : Int))) :
    Calls Tryd.prog 12 #[.int .u32 (s : Int), .slice (some ⟨b, off, none⟩) len cap] w fun e w' => e = .returned (.int .u32 ((Crc.moreN s bs : Nat) : Int)) ∧ w = w' := by
  unfold maxLen at hm
  have hn := bnot s hs
  have hnl := Crc.notN_lt s
  go_enter Tryd.func12, Tryd.ntmps12
  go_wp2
  go_loop [5, 6] (fun r i => ∃ k n : Nat, k ≤ len ∧ i = .int .i64 k ∧ r = .int .u32 (n : Int) ∧ n < 4294967296 ∧ Hid (n = Crc.regN (Crc.notN s) (bs.take k))) (fun _ i => len - (intOf i).toNat)
  case atStart => exact ⟨0, Crc.notN s, Nat.zero_le _, rfl, rfl, hnl, Lib.hid (by rw [List.take_zero, Crc.regN_nil _ hnl])⟩
  case round =>
    obtain ⟨k, n, hk, rfl, rfl, hnn, Hn⟩ := hrel
    by_cases hlt : k < len
    · have hx := hc k hlt
      have Hs : Hid (bs.take (k + 1) = bs.take k ++ [bs.getD k 0]) := by
        rw [List.take_succ_eq_append_getElem (by omega)]
        rw [List.getD_eq_getElem?_getD, List.getElem?_eq_getElem (by omega)]
        exact Lib.hid rfl
      generalize (bs.getD k 0) = x at hx Hs
      clear hc
      have hxl : x.toNat < 256 := x.toNat_lt
      have h1 := bxor n x.toNat hnn (by omega)
      have hal := Crc.xor_lt n hnn x
      obtain ⟨a, Ha⟩ : ∃ a, Hid (a = n ^^^ x.toNat) := ⟨_, Lib.hid rfl⟩
      rw [← Ha.out] at h1 hal
      go_wp2
      go_loop [5, 7] (fun r j => ∃ q m : Nat, q ≤ 8 ∧ j = .int .i64 q ∧ r = .int .u32 (m : Int) ∧ m < 4294967296 ∧ Hid (m = Crc.sNs q a)) (fun _ j => 8 - (intOf j).toNat)
      case atStart => exact ⟨0, a, Nat.zero_le _, rfl, rfl, hal, Lib.hid rfl⟩
      case round =>
        obtain ⟨q, m, hq, rfl, rfl, hmm, Hm⟩ := hrel
        by_cases hlq : q < 8
        · have hsl := Crc.sN_lt m hmm
          rcases byBit m hmm with ⟨p1, p2⟩ | ⟨p1, p2⟩
          · have p3 : ((m : Int) % 2 == 1) = true := by simp [p1]
            obtain ⟨c, Hc⟩ : ∃ c, Hid (c = Crc.sN m) := ⟨_, Lib.hid rfl⟩
            rw [← Hc.out] at p2 hsl
            clear p1
            go_wp2
            go_round
            case rel => exact ⟨q + 1, c, by omega, by go_num, rfl, hsl, Lib.hid (by rw [Hc.out, Hm.out]; rfl)⟩
            case measure => simp [intOf]; omega
          · have p3 : ((m : Int) % 2 == 1) = false := by simp [p1]
            obtain ⟨c, Hc⟩ : ∃ c, Hid (c = Crc.sN m) := ⟨_, Lib.hid rfl⟩
            rw [← Hc.out] at p2 hsl
            clear p1
            go_wp2
            go_round
            case rel => exact ⟨q + 1, c, by omega, by go_num, rfl, hsl, Lib.hid (by rw [Hc.out, Hm.out]; rfl)⟩
            case measure => simp [intOf]; omega
        · obtain rfl : q = 8 := by omega
          go_wp2
          go_round
          case rel => exact ⟨k + 1, m, by omega, by go_num, rfl, hmm, Lib.hid (by rw [Hs.out, Crc.regN_snoc, ← Hn.out, Crc.regN_bits _ hnn, Hm.out, Ha.out])⟩
          case measure => simp [intOf]; omega
    · have hn2 := bnot n hnn
      have hr : Crc.regN (Crc.notN s) (bs.take k) = Crc.regN (Crc.notN s) bs := by rw [List.take_of_length_le (by omega)]
      have HR := Lib.hid hr
      clear hr
      go_wp2
      go_ret
      exact ⟨ret_int (by rw [Crc.moreN_eq s hs, ← HR.out, ← Hn.out]), rfl⟩
set_option maxHeartbeats 400000 in
theorem rmore_none (s : Nat) (a : Option Addr) (cap : Nat) (w : World) (hs : s < 4294967296) :
    Calls Tryd.prog 12 #[.int .u32 (s : Int), .slice a 0 cap] w fun e w' => e = .returned (.int .u32 ((Crc.moreN s [] : Nat) : Int)) ∧ w = w' := by
  have hn := bnot s hs
  have hnl := Crc.notN_lt s
  have hn2 := bnot _ hnl
  have Hb : Hid (Crc.notN (Crc.notN s) = s) := by unfold Crc.notN; exact Lib.hid (by omega)
  go_enter Tryd.func12, Tryd.ntmps12
  go_wp2
  go_loop [5, 6] (fun r i => i = .int .i64 0 ∧ r = .int .u32 ((Crc.notN s : Nat) : Int)) (fun _ _ => 0)
  case atStart => exact ⟨rfl, rfl⟩
  case round =>
    obtain ⟨rfl, rfl⟩ := hrel
    go_wp2
    go_ret
    exact ⟨ret_int (by rw [Crc.moreN_nil s hs, Hb.out]), rfl⟩
theorem rmore_all (s : Nat) (a : Option Addr) (len cap : Nat) (bs : List UInt8) (w : World) (hs : s < 4294967296) (hb : Bs w a len bs) :
    Calls Tryd.prog 12 #[.int .u32 (s : Int), .slice a len cap] w fun e w' => e = .returned (.int .u32 ((Crc.moreN s bs : Nat) : Int)) ∧ w = w' := by
  obtain ⟨hl, hm, hc⟩ := hb
  by_cases h : 0 < len
  · obtain ⟨b, off, rfl, hd⟩ := hc h
    exact rmore_some s b off len cap bs w hs hl hm hd
  · obtain rfl : len = 0 := by omega
    obtain rfl : bs = [] := List.eq_nil_of_length_eq_zero hl
    exact rmore_none s a cap w hs
theorem rsum_all (a : Option Addr) (len cap : Nat) (bs : List UInt8) (w : World) (hb : Bs w a len bs) :
    Calls Tryd.prog 10 #[.slice a len cap] w fun e w' => e = .returned (.int .u32 ((Crc.sumN bs : Nat) : Int)) ∧ w = w' := by
  have h := rmore_all 0 a len cap bs w (by omega) hb
  have H := Lib.hid h
  clear h
  go_enter Tryd.func10, Tryd.ntmps10
  go_wp2_with (go_at_call 12; refine H.out.mono ?_; rintro e w' ⟨rfl, rfl⟩)
  go_ret
  exact ⟨rfl, rfl⟩
end Go.Proofs.YtbdpedagaojjkaaDoor
