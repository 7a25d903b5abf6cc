/-
  WALK: groatlaw01.CrcLinear returns true and writes nothing that was there. Conditions: the slices read as bytes, at most 2^47 each; the table holds its numbers.
-/
import Derived.Test.YtbdpedagaojjkaaDoorCrcShown
import Derived.Test.YtbdpedagaojjkaaDoorRow
import Derived.StillTailTactics
import Derived.Deep.QuietTactic
import Derived.BigQuiet
import Derived.WalkSmall
namespace Go.Proofs.YtbdpedagaojjkaaDoor
open Go.RowKit
theorem byteInfo6 : (Tryd.prog.info? 5).map (fun i => (i.zero, i.size, i.bytes)) = some (some (.int .u8 0), 1, 1) := by kernel_rfl
theorem min3 (x y z : Nat) : ∃ n : Nat, n ≤ x ∧ n ≤ y ∧ n ≤ z ∧ (∀ (ts : Array TypeId) (t : TypeId) (w : World), (Builtin.min_ ts t #[.int .i64 (x : Int), .int .i64 (y : Int), .int .i64 (z : Int)]).run Tryd.prog w = .ok (.int .i64 (n : Int)) w) := by
  refine ⟨min x (min y z), by omega, by omega, by omega, fun ts t w => ?_⟩
  have e : ((min x (min y z) : Nat) : Int) = (if (z : Int) < (if (y : Int) < x then (y : Int) else x) then (z : Int) else (if (y : Int) < x then (y : Int) else x)) := by
    split <;> split <;> omega
  rw [e]
  simp [Builtin.min_, Builtin.min2]
theorem xor3 (x y z : UInt8) : ∃ p q : Nat, p < 256 ∧ q < 256 ∧ bits .xor .u8 (x.toNat : Int) (y.toNat : Int) = (p : Int) ∧ bits .xor .u8 (p : Int) (z.toNat : Int) = (q : Int) ∧ Hid (q = (x ^^^ y ^^^ z).toNat) := by
  have hx : x.toNat < 256 := x.toNat_lt
  have hy : y.toNat < 256 := y.toNat_lt
  have hz : z.toNat < 256 := z.toNat_lt
  have hp : x.toNat ^^^ y.toNat < 256 := Nat.xor_lt_two_pow (n := 8) hx hy
  have hq : x.toNat ^^^ y.toNat ^^^ z.toNat < 256 := Nat.xor_lt_two_pow (n := 8) hp hz
  exact ⟨_, _, hp, hq, u8_xor_nat _ _ hx hy, u8_xor_nat _ _ hp hz, Lib.hid (by simp)⟩
theorem zip3_length (a b c : List UInt8) (h1 : a.length = b.length) (h2 : a.length = c.length) : (Crc.zip3 a b c).length = a.length := by
  induction a generalizing b c with
  | nil => rfl
  | cons x a ih =>
    match b, c, h1, h2 with
    | y :: b, z :: c, h1, h2 => simp only [Crc.zip3, List.length_cons, ih b c (Nat.succ.inj h1) (Nat.succ.inj h2)]
theorem zip3_at (a b c : List UInt8) (h1 : a.length = b.length) (h2 : a.length = c.length) (i : Nat) (hi : i < a.length) : (Crc.zip3 a b c)[i]? = some (a.getD i 0 ^^^ b.getD i 0 ^^^ c.getD i 0) := by
  induction a generalizing b c i with
  | nil => simp at hi
  | cons x a ih =>
    match b, c, h1, h2 with
    | y :: b, z :: c, h1, h2 =>
      cases i with
      | zero => rfl
      | succ i => simpa [Crc.zip3] using ih b c (Nat.succ.inj h1) (Nat.succ.inj h2) i (by simpa using hi)
/-- what stands in x behind k rounds -/
def lin (a b c : List UInt8) (n k : Nat) : List UInt8 := (Crc.zip3 a b c).take k ++ List.replicate (n - k) 0
theorem lin_zero (a b c : List UInt8) (n : Nat) : lin a b c n 0 = List.replicate n 0 := by simp [lin]
theorem lin_length (a b c : List UInt8) (n k : Nat) (h1 : a.length = b.length) (h2 : a.length = c.length) (h : a.length = n) (hk : k ≤ n) : (lin a b c n k).length = n := by
  unfold lin
  rw [List.length_append, List.length_take, List.length_replicate, zip3_length a b c h1 h2]
  omega
theorem lin_succ (a b c : List UInt8) (n k : Nat) (h1 : a.length = b.length) (h2 : a.length = c.length) (h : a.length = n) (hk : k < n) :
    (lin a b c n k).set k (a.getD k 0 ^^^ b.getD k 0 ^^^ c.getD k 0) = lin a b c n (k + 1) := by
  have hz := zip3_at a b c h1 h2 k (by omega)
  have hlen := zip3_length a b c h1 h2
  unfold lin
  have hr : List.replicate (n - k) (0 : UInt8) = 0 :: List.replicate (n - (k + 1)) 0 := by
    rw [show n - k = (n - (k + 1)) + 1 from by omega, List.replicate_succ]
  rw [hr, List.set_append_right _ _ (by rw [List.length_take]; omega), List.length_take, show k - min k (Crc.zip3 a b c).length = 0 from by omega, List.set_cons_zero,
    List.take_add_one, hz]
  simp
theorem lin_all (a b c : List UInt8) (n : Nat) (h1 : a.length = b.length) (h2 : a.length = c.length) (h : a.length = n) : lin a b c n n = Crc.zip3 a b c := by
  unfold lin
  rw [Nat.sub_self, List.replicate_zero, List.append_nil, List.take_of_length_le (by rw [zip3_length a b c h1 h2]; omega)]
theorem bs_take {w : World} {a : Option Addr} {len : Nat} {bs : List UInt8} (h : Bs w a len bs) {n : Nat} (hn : n ≤ len) : Bs w a n (bs.take n) := by
  obtain ⟨h1, h2, h3⟩ := h
  refine ⟨by rw [List.length_take]; omega, Nat.le_trans hn h2, fun hp => ?_⟩
  obtain ⟨b, off, e, hc⟩ := h3 (by omega)
  refine ⟨b, off, e, fun i hi => ?_⟩
  rw [hc i (by omega), List.getD_eq_getElem?_getD, List.getD_eq_getElem?_getD, List.getElem?_take, if_pos hi]
theorem sum_quiet (a : Option Addr) (len cap : Nat) (bs : List UInt8) (w : World) (n y : Nat) (hb : Bs w a len bs) (ht : Tab w) (hy : Hid (Crc.sumN bs = y)) :
    Calls Tryd.prog 9 #[.slice a len cap] (w.drewN n) fun e w'' => e = .returned (.int .u32 (y : Int)) ∧ ∃ m, w'' = w.drewN m :=
  (sum_all a len cap bs (w.drewN n) hb ht).mono fun _ _ ⟨he, hw⟩ => ⟨by rw [he, hy.out], n, hw.symm⟩
theorem xor3s (x y z : List UInt8) (h1 : x.length = y.length) (h2 : x.length = z.length) : ∃ s0 s1 s2 p q : Nat, Hid (Crc.sumN x = s0) ∧ Hid (Crc.sumN y = s1) ∧ Hid (Crc.sumN z = s2) ∧ Hid (Crc.sumN (Crc.zip3 x y z) = q) ∧
    bits .xor .u32 (s0 : Int) (s1 : Int) = (p : Int) ∧ bits .xor .u32 (p : Int) (s2 : Int) = (q : Int) := by
  have a := Crc.sumN_lt x
  have b := Crc.sumN_lt y
  have c := Crc.sumN_lt z
  have hp : Crc.sumN x ^^^ Crc.sumN y < 4294967296 := Nat.xor_lt_two_pow (n := 32) a b
  refine ⟨_, _, _, _, _, Lib.hid rfl, Lib.hid rfl, Lib.hid rfl, Lib.hid rfl, bxor _ _ a b, ?_⟩
  rw [bxor _ _ hp c]
  congr 1
  unfold Crc.sumN
  rw [Crc.sum_zip3 x y z h1 h2, BitVec.toNat_xor, BitVec.toNat_xor]
set_option maxHeartbeats 2000000 in
theorem crcLinear_walk (a : Option Addr) (len cap : Nat) (bs : List UInt8) (a1 : Option Addr) (len1 cap1 : Nat) (bs1 : List UInt8) (a2 : Option Addr) (len2 cap2 : Nat) (bs2 : List UInt8) (w : World)
    (hb : Bs w a len bs) (hb1 : Bs w a1 len1 bs1) (hb2 : Bs w a2 len2 bs2) (hb' : len ≤ cap ∧ len1 ≤ cap1 ∧ len2 ≤ cap2 ∧ cap ≤ 140737488351232 ∧ cap1 ≤ 140737488351232 ∧ cap2 ≤ 140737488351232) (ht : Tab w) :
    Calls Tryd.prog 6 #[.slice a len cap, .slice a1 len1 cap1, .slice a2 len2 cap2] w fun e w' => e = .returned (.bool true) ∧ Below w.heap.size w w' := by
  obtain ⟨l0, l1, l2, r0, r1, r2⟩ := hb'
  obtain ⟨i0, hi0, hz0, hz1, hz2⟩ := info_parts byteInfo6
  obtain ⟨n, n0, n1, n2, hmin⟩ := min3 len len1 len2
  go_enter Tryd.func6, Tryd.ntmps6
  go_wp2_with fail
  refine (shown_any w ht).mono ?_
  rintro e w1 ⟨rfl, b1⟩
  have hb := bs_take (bs_below hb b1) n0
  have hb1 := bs_take (bs_below hb1 b1) n1
  have hb2 := bs_take (bs_below hb2 b1) n2
  have ht := tab_below ht b1
  have hz := b1.size
  generalize bs.take n = p0 at hb
  generalize bs1.take n = p1 at hb1
  generalize bs2.take n = p2 at hb2
  have hmk : (Instr.makeSlice 22 (.int .i64 (n : Int)) (.int .i64 (n : Int))).run Tryd.prog w1 = .ok (.slice (some ⟨w1.heap.size, 0, none⟩) n n) (w1.alloc (.cells (byteCells (List.replicate n 0)) 5)) := by
    have h := run_make (P := Tryd.prog) w1 22 5 i0 _ Tryd.underlying22 hi0 hz0 .i64 .i64 (n : Int) (n : Int) (by omega) (by omega) (by rw [hz2]; omega) (by omega)
    rw [hz1] at h
    rw [h]
    simp only [Int.toNat_natCast, Nat.mul_one, madeBytes]
  go_wp2_with fail
  have hrow := Row.new w1 5 (List.replicate n 0)
  have hbel := below_new w1 (.cells (byteCells (List.replicate n 0)) 5)
  generalize (w1.alloc (.cells (byteCells (List.replicate n 0)) 5)) = w2 at *
  clear hmk hmin
  clear hi0 hz0 hz1 hz2
  have hp0 : p0.length = n := hb.1
  have hp1 : p1.length = n := hb1.1
  have hp2 : p2.length = n := hb2.1
  have q1 : p0.length = p1.length := by omega
  have q2 : p0.length = p2.length := by omega
  have hfin := b1.trans (hbel.mono hz)
  have Q1 := Lib.hid q1
  have Q2 := Lib.hid q2
  have Hp0 := Lib.hid hp0
  clear q1 q2 hp0 hp1 hp2
  rw [← lin_zero p0 p1 p2 n] at hrow
  have e0 : ∀ wr, Below w1.heap.size w1 wr → ∀ (A : Option Addr) (ps : List UInt8) (k : Nat), Bs w1 A n ps → k < n → ∃ b off, A = some ⟨b, off, none⟩ ∧ wr.cell? ⟨b, off + k, none⟩ = some (.int .u8 ((ps.getD k 0).toNat : Int)) := by
    intro wr hwr A ps k hA hk
    obtain ⟨b, off, e, hc⟩ := hA.2.2 (by omega)
    refine ⟨b, off, e, ?_⟩
    rw [hwr.cell (World.block_lt_of_cell? _ _ (hc k hk))]
    exact hc k hk
  have hG : w1.heap.size < w2.heap.size := hrow.lt
  have E0 := Lib.hid e0
  clear e0
  generalize hg : w1.heap.size = G at *
  have HG := Lib.hid hg
  clear hg
  go_loopw [10] (fun i wr => ∃ k : Nat, k ≤ n ∧ i = .int .i64 k ∧ Row wr G 5 (lin p0 p1 p2 n k) ∧ Below G w1 wr) (fun i _ => n - (intOf i).toNat)
  case atStart => exact ⟨0, Nat.zero_le _, rfl, hrow, hbel⟩
  case round =>
    obtain ⟨k, hk, rfl, hrw, hbw⟩ := hrel
    clear hrow hbel
    by_cases hlt : k < n
    · obtain ⟨b0, o0, rfl, c0⟩ := E0.out _ hbw _ _ k hb hlt
      obtain ⟨d0, t0, rfl, c1⟩ := E0.out _ hbw _ _ k hb1 hlt
      obtain ⟨f0, g0, rfl, c2⟩ := E0.out _ hbw _ _ k hb2 hlt
      have Hs : Hid ((lin p0 p1 p2 n k).set k (p0.getD k 0 ^^^ p1.getD k 0 ^^^ p2.getD k 0) = lin p0 p1 p2 n (k + 1)) := Lib.hid (lin_succ p0 p1 p2 n k Q1.out Q2.out Hp0.out hlt)
      generalize p0.getD k 0 = x0 at c0 Hs
      generalize p1.getD k 0 = x1 at c1 Hs
      generalize p2.getD k 0 = x2 at c2 Hs
      obtain ⟨v1, v2, lv1, lv2, h1, h2, Hv⟩ := xor3 x0 x1 x2
      have hlen : k < (lin p0 p1 p2 n k).length := by rw [lin_length p0 p1 p2 n k Q1.out Q2.out Hp0.out hk]; exact hlt
      have cG := hrw.cell k hlen
      have fG := hrw.frozen k
      clear hlen hb hb1 hb2
      have z0 : (0 : Int) ≤ (k : Int) := by omega
      have z1 : (k : Int) < (n : Int) := by omega
      have z2 : (k : Int) < (len : Int) := by omega
      have z3 : (k : Int) < (len1 : Int) := by omega
      have z4 : (k : Int) < (len2 : Int) := by omega
      go_wp2_with fail
      go_still_tail 17, (by kernel_rfl)
      change wpList _ _ _ _ _ wr.drew
      go_wp2
      go_roundw
      case rel =>
        refine ⟨k + 1, by omega, by go_num, ?_, ?_⟩
        · rw [← Hs.out, Hv.out]
          exact hrw.set k _
        · exact (hbw.setCell (p := ⟨G, k, none⟩) (Nat.le_refl _) _).drew
      case measure => simp [intOf]; omega
    · obtain rfl : k = n := by omega
      rw [lin_all p0 p1 p2 k Q1.out Q2.out Hp0.out] at hrw
      have hbw1 : Below w1.heap.size w1 wr := by rw [HG.out]; exact hbw
      have hA0 := bs_below hb hbw1
      have hA1 := bs_below hb1 hbw1
      have hA2 := bs_below hb2 hbw1
      have hT := tab_below ht hbw1
      have hf := b1.trans (hbw.mono hz)
      have hzl : (Crc.zip3 p0 p1 p2).length = k := by rw [zip3_length _ _ _ Q1.out Q2.out]; exact Hp0.out
      have hbz := hrw.bs (n := k) (by omega) (by unfold maxLen; omega)
      rw [List.take_of_length_le (by omega)] at hbz
      clear hzl
      obtain ⟨s0, s1, s2, p, q, S0, S1, S2, S3, hx1, hx2⟩ := xor3s p0 p1 p2 Q1.out Q2.out
      have z0 : (k : Int) ≤ (cap : Int) := by omega
      have z1 : (k : Int) ≤ (cap1 : Int) := by omega
      have z2 : (k : Int) ≤ (cap2 : Int) := by omega
      have z3 : (0 : Int) ≤ (k : Int) := by omega
      go_wp2_with fail
      clear hb hb1 hb2 ht hbw hbw1 hrw b1 hfin E0
      go_quiet ((first | (go_at_call 9; exact sum_quiet _ _ _ _ _ _ _ hbz hT S3) | (go_at_call 9; exact sum_quiet _ _ _ _ _ _ _ hA0 hT S0) | (go_at_call 9; exact sum_quiet _ _ _ _ _ _ _ hA1 hT S1) | (go_at_call 9; exact sum_quiet _ _ _ _ _ _ _ hA2 hT S2)))
      go_wp2_with fail
      go_ret
      exact ⟨rfl, below_drewN hf _⟩
end Go.Proofs.YtbdpedagaojjkaaDoor
