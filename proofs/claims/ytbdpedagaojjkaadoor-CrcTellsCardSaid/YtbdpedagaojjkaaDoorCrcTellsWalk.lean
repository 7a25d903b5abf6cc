/-
  WALK: groatlaw01.CrcTells returns true and writes nothing that was there. Conditions: the slice reads as bytes, at most 2^47 of them; the table holds its numbers.
-/
import Derived.Test.YtbdpedagaojjkaaDoorCrcShown
import Derived.Test.YtbdpedagaojjkaaDoorRow
import Derived.Test.YtbdpedagaojjkaaDoorCrcTellsMath
import Derived.StillTailTactics
import Derived.WalkSmall
import Derived.IntWalk
namespace Go.Proofs.YtbdpedagaojjkaaDoor
open Go.RowKit
theorem byteInfo5 : (Tryd.prog.info? 5).map (fun i => (i.zero, i.size, i.bytes)) = some (some (.int .u8 0), 1, 1) := by kernel_rfl
theorem place (at_ : Int) (len : Nat) (hlen : 0 < len) : ∃ p : Nat, p < 8 * len ∧ ((at_ < 0 ∧ (at_ + 1).tmod (8 * (len : Int)) = -(p : Int)) ∨ (0 ≤ at_ ∧ at_ % (8 * (len : Int)) = (p : Int))) := by
  rcases (show at_ < 0 ∨ 0 ≤ at_ from by omega) with h | h
  · refine ⟨(-(at_ + 1) % (8 * (len : Int))).toNat, ?_, .inl ⟨h, ?_⟩⟩
    · have h1 := Int.emod_nonneg (-(at_ + 1)) (show (8 * (len : Int)) ≠ 0 by omega)
      have h2 := Int.emod_lt_of_pos (-(at_ + 1)) (show 0 < (8 * (len : Int)) by omega)
      omega
    · have h1 := Int.emod_nonneg (-(at_ + 1)) (show (8 * (len : Int)) ≠ 0 by omega)
      rw [Int.toNat_of_nonneg h1, ← Int.tmod_eq_emod_of_nonneg (show 0 ≤ -(at_ + 1) by omega), Int.neg_tmod, Int.neg_neg]
  · refine ⟨(at_ % (8 * (len : Int))).toNat, ?_, .inr ⟨h, ?_⟩⟩
    · have h1 := Int.emod_nonneg at_ (show (8 * (len : Int)) ≠ 0 by omega)
      have h2 := Int.emod_lt_of_pos at_ (show 0 < (8 * (len : Int)) by omega)
      omega
    · have h1 := Int.emod_nonneg at_ (show (8 * (len : Int)) ≠ 0 by omega)
      omega
theorem bit_test (s k : Nat) : (((s : Int) / 2 ^ k).tmod 2 == 1) = s.testBit k := by
  have e : ((s : Int) / 2 ^ k).tmod 2 = ((s / 2 ^ k % 2 : Nat) : Int) := by
    rw [show (s : Int) / 2 ^ k = ((s / 2 ^ k : Nat) : Int) from by simp]
    rw [Int.tmod_eq_emod_of_nonneg (Int.natCast_nonneg _)]
    omega
  rw [e, Crc.shifted]
  cases s.testBit k <;> rfl
theorem bne_nat (a b : Nat) : ((a : Int) != (b : Int)) = decide (a ≠ b) := by
  by_cases h : a = b
  · subst h; simp
  · have : ¬ (a : Int) = (b : Int) := by omega
    simp [h, this]
theorem xor_bit (x : UInt8) (r : Nat) (hr : r < 8) : bits .xor .u8 (x.toNat : Int) (2 ^ r % 256) = ((x ^^^ UInt8.ofNat (2 ^ r)).toNat : Int) := by
  have hp : 2 ^ r < 256 := Nat.lt_of_lt_of_le (Nat.pow_lt_pow_right (by omega) hr) (by omega)
  have e : ((2 : Int) ^ r % 256) = ((2 ^ r : Nat) : Int) := by
    rw [show (2 : Int) ^ r = ((2 ^ r : Nat) : Int) from by simp]
    generalize 2 ^ r = m at hp
    omega
  have e2 : (UInt8.ofNat (2 ^ r)).toNat = 2 ^ r := by rw [UInt8.toNat_ofNat']; exact Nat.mod_eq_of_lt hp
  rw [e, u8_xor_nat _ _ x.toNat_lt hp, UInt8.toNat_xor, e2]
set_option maxHeartbeats 2000000 in
theorem crcTells_core (b off len cap : Nat) (bs : List UInt8) (at_ : Int) (p : Nat) (s : Nat) (w : World) (hb : Bs w (some ⟨b, off, none⟩) len bs) (hlen : 0 < len) (hcap : len ≤ 140737488351232)
    (h0 : -9223372036854775808 ≤ at_) (h1 : at_ ≤ 9223372036854775807) (hs : s < 4294967296) (hs0 : 0 < s) (ht : Tab w)
    (hp : p < 8 * len) (hcase : (at_ < 0 ∧ (at_ + 1).tmod (8 * (len : Int)) = -(p : Int)) ∨ (0 ≤ at_ ∧ at_ % (8 * (len : Int)) = (p : Int))) :
    Calls Tryd.prog 5 #[.slice (some ⟨b, off, none⟩) len cap, .int .i64 at_, .int .u32 (s : Int)] w fun e w' => e = .returned (.bool true) ∧ Below w.heap.size w w' := by
  have g0 : ((len : Int) == 0) = false := by simp; omega
  have g1 : ((s : Int) == 0) = false := by simp; omega
  have L1 : Hid (bs.length = len) := hb.1
  rcases hcase with ⟨ha, hpe⟩ | ⟨ha, hpe⟩
  all_goals
    go_enter Tryd.func5, Tryd.ntmps5
    go_wp2_with fail
    refine (shown_any w ht).mono ?_
    rintro e w1 ⟨rfl, b1⟩
    have hb := bs_below hb b1
    have ht := tab_below ht b1
    have hz := b1.size
    go_wp2_with (first
      | (at_builtin
         refine wpList_append_bytes _ rfl (.tmp 35) (.tmp 36) _ rfl w1.heap.size 5 byteInfo5 Tryd.underlying22 _ [] rfl (Own.empty w1 _ _ (Nat.le_refl _)) _ len cap bs rfl (bs_below hb (below_new _ _)) (fun h => by cases h) ?_ ?_ ?_
         · simp only [List.length_nil]; omega
         · simp
         intro v2 w2 hown2 hbel2
         have hB2 : Below w1.heap.size w1 w2 := (below_new w1 (.cells #[] 5)).trans hbel2)
      | fail)
    obtain ⟨G, c3, rfl, hG, hhead⟩ := hown2.head (by rw [List.nil_append, L1.out]; exact hlen)
    rw [List.nil_append] at hhead
    rw [List.nil_append, L1.out]
    clear hown2 hbel2
    go_loopw [9, 10] (fun t i wr => ∃ (k : Nat) (cs : List UInt8) (y : Bool), k ≤ 32 ∧ i = .int .i64 k ∧ t = .bool y ∧ cs.length = len ∧ Head wr G 5 cs ∧ Below w1.heap.size w1 wr ∧ Hid (y = Crc.any (8 * len - p) s k) ∧ Hid (∀ j, j < 8 * len → Crc.bit cs j = (Crc.bit bs j ^^ Crc.turn p (s % 2 ^ k) j))) (fun _ i _ => 32 - (intOf i).toNat)
    case atStart => exact ⟨0, bs, false, by omega, rfl, rfl, L1.out, hhead, hB2, Lib.hid (Crc.any_zero _ _).symm, Lib.hid fun j _ => by rw [Crc.turn_zero, Bool.xor_false]⟩
    case round =>
      obtain ⟨k, cs, y, hk, rfl, rfl, hcl, hh, hbw, Hy, Hc⟩ := hrel
      clear hhead hB2
      have HL := Lib.hid hcl
      clear hcl
      by_cases hlt : k < 32
      · rcases (show (p + k < 8 * len ∧ s.testBit k = true) ∨ ¬ (p + k < 8 * len) ∨ (p + k < 8 * len ∧ s.testBit k = false) from by cases s.testBit k <;> simp <;> omega) with ⟨c1, c2⟩ | c1 | ⟨c1, c2⟩
        · have hbit : (((s : Int) / 2 ^ k).tmod 2 == 1) = true := by rw [bit_test]; exact c2
          obtain ⟨q, r, hqr, hr8, hq, hr⟩ : ∃ q r : Nat, p + k = 8 * q + r ∧ r < 8 ∧ ((p : Int) + (k : Int)) / 8 = (q : Int) ∧ ((p : Int) + (k : Int)) % 8 = (r : Int) := ⟨(p + k) / 8, (p + k) % 8, by omega, by omega, by omega, by omega⟩
          have hql : q < len := by omega
          have cG := hh.cell q (by rw [HL.out]; exact hql)
          have HS := Lib.hid (Crc.bit_set cs q r · (by rw [HL.out]; exact hql) hr8)
          have HH := Lib.hid (hh.set q (cs.getD q 0 ^^^ UInt8.ofNat (2 ^ r)))
          generalize cs.getD q 0 = x at cG HS HH
          have HX := Lib.hid (xor_bit x r hr8)
          have fG := hh.frozen q
          have z0 : (0 : Int) ≤ (p : Int) + (k : Int) := by omega
          have z1 : (q : Int) < (len : Int) := by omega
          have z2 : (0 : Int) ≤ (q : Int) := by omega
          have hqd : ((p : Int) + (k : Int)).tdiv 8 = (q : Int) := by rw [Int.tdiv_eq_ediv_of_nonneg z0]; exact hq
          have hrd : ((p : Int) + (k : Int)).tmod 8 = (r : Int) := by rw [Int.tmod_eq_emod_of_nonneg z0]; exact hr
          have hqw : IntKind.i64.wrap (q : Int) = (q : Int) := IntWalk.i64_in _ (by omega)
          have HQ := Lib.hid hqr
          clear hqr
          go_wp2_with fail
          go_still_tail 13, (by kernel_rfl)
          change wpList _ _ _ _ _ wr.drew
          go_wp2_with fail
          go_roundw
          case rel =>
            refine ⟨k + 1, cs.set q (x ^^^ UInt8.ofNat (2 ^ r)), true, by omega, by go_num, rfl, by rw [List.length_set]; exact HL.out, ?_, ?_, ?_, ?_⟩
            · rw [HX.out]; exact HH.out.drew
            · exact (hbw.setCell (p := ⟨G, q, none⟩) hG _).drew
            · exact Lib.hid (Crc.any_yes _ s k c2 (by omega)).symm
            · refine Lib.hid fun j hj => ?_
              rw [HS.out j, Hc.out j hj, Crc.turn_yes p s k j c2, Bool.xor_assoc, HQ.out]
          case measure => simp [intOf]; omega
        · have c3 : ¬ ((p : Int) + (k : Int) < 8 * (len : Int)) := by omega
          go_wp2_with fail
          go_roundw
          case rel =>
            exact ⟨k + 1, cs, y, by omega, by go_num, rfl, HL.out, hh, hbw, Lib.hid (by rw [Crc.any_no _ s k (.inr (by omega))]; exact Hy.out), Lib.hid fun j hj => by rw [Hc.out j hj, Crc.turn_no p s k j (8 * len) hj (.inr (by omega))]⟩
          case measure => simp [intOf]; omega
        · have hbit : (((s : Int) / 2 ^ k).tmod 2 == 1) = false := by rw [bit_test]; exact c2
          go_wp2_with fail
          go_roundw
          case rel =>
            exact ⟨k + 1, cs, y, by omega, by go_num, rfl, HL.out, hh, hbw, Lib.hid (by rw [Crc.any_no _ s k (.inl c2)]; exact Hy.out), Lib.hid fun j hj => by rw [Hc.out j hj, Crc.turn_no p s k j (8 * len) hj (.inl c2)]⟩
          case measure => simp [intOf]; omega
      · obtain rfl : k = 32 := by omega
        have hA := bs_below hb hbw
        have hT := tab_below ht hbw
        have hC := hh.bs HL.out (by unfold maxLen; omega)
        have hf := b1.trans (hbw.mono hz)
        clear hb ht b1 hbw hh
        go_wp2_with fail
        refine (sum_all _ _ _ bs wr hA hT).mono ?_
        rintro e w4 ⟨rfl, rfl⟩
        go_wp2_with fail
        refine (sum_all _ _ _ cs wr hC hT).mono ?_
        rintro e w4 ⟨rfl, rfl⟩
        go_wp2_with fail
        go_ret
        exact ⟨ret_bool (by rw [bne_nat, Hy.out, ← L1.out]; exact Crc.told bs cs p s hs (by rw [L1.out]; exact hp) (by rw [HL.out, L1.out]) (by rw [L1.out]; exact Hc.out)), hf⟩
set_option maxHeartbeats 400000 in
theorem crcTells_empty (a : Option Addr) (cap : Nat) (x y : Int) (w : World) (ht : Tab w) :
    Calls Tryd.prog 5 #[.slice a 0 cap, .int .i64 x, .int .u32 y] w fun e w' => e = .returned (.bool true) ∧ Below w.heap.size w w' := by
  go_enter Tryd.func5, Tryd.ntmps5
  go_wp2_with fail
  refine (shown_any w ht).mono ?_
  rintro e w1 ⟨rfl, b1⟩
  go_wp2_with fail
  go_ret
  exact ⟨rfl, b1⟩
set_option maxHeartbeats 400000 in
theorem crcTells_none (a : Option Addr) (len cap : Nat) (x : Int) (w : World) (hlen : 0 < len) (ht : Tab w) :
    Calls Tryd.prog 5 #[.slice a len cap, .int .i64 x, .int .u32 0] w fun e w' => e = .returned (.bool true) ∧ Below w.heap.size w w' := by
  have g0 : ((len : Int) == 0) = false := by simp; omega
  go_enter Tryd.func5, Tryd.ntmps5
  go_wp2_with fail
  refine (shown_any w ht).mono ?_
  rintro e w1 ⟨rfl, b1⟩
  go_wp2_with fail
  go_ret
  exact ⟨rfl, b1⟩
theorem crcTells_walk (a : Option Addr) (len cap : Nat) (bs : List UInt8) (x y : Int) (w : World) (hb : Bs w a len bs) (hx : (Lit.int .i64 x).wf = true) (hy : (Lit.int .u32 y).wf = true) (hcap : len ≤ 140737488351232) (ht : Tab w) :
    Calls Tryd.prog 5 #[.slice a len cap, .int .i64 x, .int .u32 y] w fun e w' => e = .returned (.bool true) ∧ Below w.heap.size w w' := by
  obtain ⟨s, rfl, hs⟩ := u32_nat hy
  have hxx := i64_in hx
  rcases Nat.eq_zero_or_pos len with h | h
  · subst h
    exact crcTells_empty a cap x s w ht
  · rcases Nat.eq_zero_or_pos s with h2 | h2
    · subst h2
      exact crcTells_none a len cap x w h ht
    · obtain ⟨b, off, rfl, _⟩ := hb.2.2 h
      obtain ⟨p, hp, hc⟩ := place x len h
      exact crcTells_core b off len cap bs x p s w hb h hcap hxx.1 hxx.2 hs h2 ht hp hc
end Go.Proofs.YtbdpedagaojjkaaDoor
