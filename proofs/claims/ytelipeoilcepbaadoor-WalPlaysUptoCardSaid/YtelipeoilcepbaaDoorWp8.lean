/-
  Texts in one file: WlM. Conditions: the tables and the errors read as the program's text lays them.
-/
import Derived.Test.YtelipeoilcepbaaDoorWp0
import Derived.Test.YtelipeoilcepbaaDoorWp7
import Derived.Test.YtelipeoilcepbaaDoorWp1
namespace Go.Proofs.YtelipeoilcepbaaDoor
open Go.RowKit
open Wl (B8)
set_option linter.unusedVariables false
set_option linter.unusedSimpArgs false
set_option maxRecDepth 20000
open Wl (be2 size cost pack)
def pkA (l : List B8) (i : Nat) : B8 := [UInt8.ofNat l.length] ++ (l.take i).flatMap (fun r => be2 r.length) ++ List.replicate (2 * (l.length - i)) 0
def pkB (N : Nat) (l : List B8) (i : Nat) : B8 := (l.take i).flatten ++ List.replicate (N - size (l.take i)) 0
theorem lens_size (l : List B8) : (l.flatMap fun r => be2 r.length).length = 2 * l.length := Wl.lens_size l
theorem pkA_len {l : List B8} {i : Nat} (h : i ≤ l.length) : (pkA l i).length = 1 + 2 * l.length := by
  unfold pkA
  rw [List.length_append, List.length_append, lens_size, List.length_take, List.length_replicate, List.length_singleton]
  omega
theorem pkB_len {N : Nat} {l : List B8} {i : Nat} (h : size (l.take i) ≤ N) : (pkB N l i).length = N := by
  unfold pkB
  rw [List.length_append, Wl.flat_size, List.length_replicate]
  omega
theorem put2 (x y : B8) (a b : UInt8) (n o : Nat) (h : o = x.length) : putB (x ++ a :: b :: y) o 2 n = x ++ be2 n ++ y := by
  subst h
  have e1 : (x ++ a :: b :: y).set (x.length + 1) (UInt8.ofNat n) = x ++ a :: UInt8.ofNat n :: y := by
    rw [List.set_append_right _ _ (by omega), show x.length + 1 - x.length = 1 by omega]; rfl
  have e2 : (x ++ a :: UInt8.ofNat n :: y).set (x.length + 0) (UInt8.ofNat (n / 256)) = x ++ UInt8.ofNat (n / 256) :: UInt8.ofNat n :: y := by
    rw [List.set_append_right _ _ (by omega), show x.length + 0 - x.length = 0 by omega]; rfl
  simp only [putB]
  rw [e1, e2, be2, List.append_assoc]
  rfl
theorem pk_put {l : List B8} {i : Nat} {r : B8} (h : l[i]? = some r) (B : B8) : putB (pkA l i ++ B) (1 + 2 * i) 2 r.length = pkA l (i + 1) ++ B := by
  obtain ⟨hi, e⟩ := List.getElem?_eq_some_iff.1 h
  have e1 : pkA l i ++ B = ([UInt8.ofNat l.length] ++ (l.take i).flatMap (fun r => be2 r.length)) ++ 0 :: 0 :: (List.replicate (2 * (l.length - (i + 1))) 0 ++ B) := by
    unfold pkA
    rw [show 2 * (l.length - i) = 2 * (l.length - (i + 1)) + 1 + 1 by omega, List.replicate_succ, List.replicate_succ]
    simp
  rw [e1, put2 _ _ _ _ _ _ (by rw [List.length_append, lens_size, List.length_take, List.length_singleton]; omega)]
  unfold pkA
  rw [List.take_succ_eq_append_getElem hi, e]
  simp
theorem pk_copy {l : List B8} {i N : Nat} {r : B8} (h : l[i]? = some r) (P : B8) (hN : size (l.take (i + 1)) ≤ N) : (P ++ pkB N l i).take (P.length + size (l.take i)) ++ r ++ (P ++ pkB N l i).drop (P.length + size (l.take i) + r.length) = P ++ pkB N l (i + 1) := by
  obtain ⟨hi, e⟩ := List.getElem?_eq_some_iff.1 h
  have hs := size_take h
  unfold pkB
  rw [hs] at hN ⊢
  rw [← List.append_assoc, List.take_append_of_le_length (by rw [List.length_append, Wl.flat_size]; omega), List.take_of_length_le (by rw [List.length_append, Wl.flat_size]; omega)]
  rw [List.drop_append, List.drop_eq_nil_of_le (by rw [List.length_append, Wl.flat_size]; omega), List.nil_append, List.length_append, Wl.flat_size, List.drop_replicate]
  rw [List.take_succ_eq_append_getElem hi, e]
  simp only [List.flatten_append, List.flatten_cons, List.flatten_nil, List.append_nil, List.append_assoc]
  congr 4
  omega
theorem pk_end {l : List B8} {N : Nat} (hN : N = 40 * cost l - (1 + 2 * l.length)) : pkA l l.length ++ pkB N l l.length = pack l := by
  unfold pkA pkB pack
  rw [Wl.body_len, List.take_of_length_le (Nat.le_refl _), Nat.sub_self, hN, Nat.sub_sub]
  unfold Wl.body
  simp
theorem pk_zero {l : List B8} {N : Nat} (hN : 40 * cost l = N + (1 + 2 * l.length)) : (List.replicate (40 * cost l) (0 : UInt8)).set 0 (UInt8.ofNat l.length) = pkA l 0 ++ pkB N l 0 := by
  unfold pkA pkB
  rw [hN, show N + (1 + 2 * l.length) = (2 * l.length + N) + 1 by omega, List.replicate_succ]
  simp [Wl.size, List.replicate_append_replicate]
theorem elmU : Elm Tryd.prog 38 5 1 1 (.int .u8 0) := ⟨Tryd.underlying38, by kernel_rfl, rfl, by decide, by decide⟩
theorem copy_row {w : World} {g o k c m ca : Nat} {bs r : B8} {A : Option Addr} {ty : TypeId} (hr : Row w g 5 bs) (hk : m ≤ k) (ho : o + m ≤ bs.length) (hb : Bs w A m r) :
    ∃ w', (Builtin.copy_ #[38, 38] ty #[.slice (some ⟨g, o, none⟩) k c, .slice A m ca]).run Tryd.prog w = .ok (.int .i64 (m : Int)) w' ∧ Row w' g 5 (bs.take o ++ r ++ bs.drop (o + r.length)) ∧ Turn (only g) w w' := by
  have hlen := hb.1
  by_cases h0 : m = 0
  · subst h0
    obtain rfl : r = [] := List.eq_nil_of_length_eq_zero hlen
    refine ⟨w, ?_, by simpa using hr, Turn.refl _ _⟩
    have := run_copy_none (P := Tryd.prog) w 38 38 ty 5 (some ⟨g, o, none⟩) A k c 0 ca Tryd.underlying38 size_u8 (by simp)
    simpa [goInt] using this
  · obtain ⟨b, off, rfl, hc⟩ := hb.2.2 (by omega)
    have hm : Nat.min m k = m := Nat.min_eq_left hk
    have h := run_copyK elmU (w := w) (ty := ty) (g := g) (o := o) (dLen := k) (dCap := c) (sLen := m) (sCap := ca) (a := ⟨b, off, none⟩) (cs := bcs r) (show Blk w g 5 (byteCells bs) from hr) (by rw [bcs_length, hlen, hm, Nat.mul_one]) (fun j u hj => by
      rw [add_at]; exact bs_range hb j u hj) (by rw [bcs_length, hlen, bc_size]; exact ho) (bcs_one r)
    refine ⟨_, by rw [hm] at h; exact h, ?_, setRow_turn' w g _⟩
    have h2 : Blk (w.setRow g ((byteCells bs).toList.take o ++ bcs r ++ (byteCells bs).toList.drop (o + (bcs r).length)).toArray) g 5 _ := setRow_heap w g _ _ _ _ hr
    have e1 : (byteCells bs).toList = bcs bs := by simp [byteCells, bcs]
    have e2 : (bcs bs).take o ++ bcs r ++ (bcs bs).drop (o + (bcs r).length) = bcs (bs.take o ++ r ++ bs.drop (o + r.length)) := by
      rw [bcs_length]
      simp [bcs, List.map_take, List.map_drop]
    rw [e1, e2] at h2
    rw [e1, e2]
    exact h2
theorem sx_l' {a : Act} {o : Oper} {W : World} {x y : Operand} {b off n c i : Nat} (hin : i ≤ n) (hic : n ≤ c) (ho : o.op = .slice 38 x (some y) none none) (hx : a.eval x = .slice (some ⟨b, off, none⟩) n c) (hy : a.eval y = .int .i64 (i : Int)) :
    (execOp a.eval o).run Tryd.prog W = .ok (.value (.slice (some ⟨b, if c = i then off else off + i, none⟩) (n - i) (c - i))) W := by
  by_cases h : c = i
  · subst h
    obtain ⟨i0, hi1, hi2⟩ := Option.map_eq_some_iff.1 size_u8
    have hu8 := Tryd.underlying38
    refine exec_slice ho hx (congrArg some hy) rfl rfl ?_
    have b1 : (0 : Int) ≤ (c : Int) ∧ (c : Int) ≤ (n : Int) := ⟨by omega, by omega⟩
    simp [Instr.sliceAt, Instr.slice, Instr.sliceBounds, Instr.sliceBound, asIntOf, run_underlying hu8, sizeOf, typeInfo, hi1, hi2, b1, add_at, Result.andThen]
    simp [hin]
  · rw [if_neg h]
    exact sx_l hin (by omega) ho hx hy
set_option maxRecDepth 20000 in
set_option maxHeartbeats 4000000 in
theorem pack_walk (w : World) (A : Option Addr) (n c : Nat) (l : List B8) (hl : Ls w A n l) (h16 : n ≤ 16) (hsz : size l ≤ 2048) :
    Calls Tryd.prog 30 #[.slice A n c] w fun r w' => ∃ g, r = .returned (.slice (some ⟨g, 0, none⟩) (40 * cost l) (40 * cost l)) ∧ w.heap.size ≤ g ∧ Row w' g 5 (pack l) ∧ Turn nowhere w w' := by
  have HL := Lib.hid hl
  have HLEN := Lib.hid hl.1
  obtain ⟨N, hN⟩ : ∃ N, N = 40 * cost l := ⟨_, rfl⟩
  obtain ⟨R, hR⟩ : ∃ R, R = N - (1 + 2 * n) := ⟨_, rfl⟩
  have hbody : 1 + 2 * n + size l ≤ N := by rw [hN, ← hl.1, ← Wl.body_len]; exact Wl.cost_le l
  have hlt : 2 * n < N - 1 := by omega
  have hlt2 : 2 * n + 1 < N := by omega
  have hN2 : N ≤ 2160 := by
    have : ¬ Wl.long l := fun h => by unfold Wl.long at h; rw [hl.1] at h; omega
    have := Wl.cost_max this
    omega
  have HZ0 := Lib.hid (pk_zero (l := l) (N := R) (by rw [hl.1]; omega))
  have HEND := Lib.hid (pk_end (l := l) (N := R) (by rw [hl.1]; omega))
  have HNE := Lib.hid hN
  have HR := Lib.hid hR
  have HBD := Lib.hid hbody
  have HLTN := Lib.hid hlt
  rw [← hN] at HZ0 ⊢
  clear hl hN hR hsz hbody hlt
  go_enter Tryd.func30, Tryd.ntmps30
  go_upto_region 0 with fail
  refine wp_region_lit ?_
  refine nR (.slice none 0 0) (gx_assign rfl rfl) ?_;simp only [zz]
  go_upto_region 1 with fail
  refine wp_region_lit ?_
  refine nR (.slice A n c) (exec_move rfl rfl) ?_;simp only [zz]
  refine wpList_op rfl fun K9 HK9 => ?_
  go_wp2_with fail
  refine (costOf_walk w A n c l HL.out).mono ?_
  rintro e w1 ⟨rfl, ht⟩
  refine HK9.out _ _ ?_
  clear HK9
  try simp only [zz]
  have HT1 := Lib.hid ht
  clear ht
  refine nR (.int .i64 (N : Int)) (ix_mul rfl rfl rfl (by have := HNE.out; omega) (by omega)) ?_;simp only [zz]
  obtain ⟨j0, hj0, hjz, hj1, hj2⟩ := info_parts byteInfo
  have hmk := run_makeSlice (P := Tryd.prog) w1 38 5 j0 _ Tryd.underlying38 hj0 hjz .i64 .i64 (N : Int) (N : Int) (by omega) (by omega) (by rw [hj1]; omega) (by rw [hj2]; omega) (by omega)
  rw [hj1, Int.toNat_natCast, Nat.mul_one, madeBytes] at hmk
  refine nR (.slice (some ⟨w1.heap.size, 0, none⟩) N N) (gx_make rfl rfl rfl hmk) ?_
  clear hmk hj0 hjz hj1 hj2
  have hb_ := Blk.new w1 5 (byteCells (List.replicate N 0))
  have ht_ := (Turn.refl nowhere w1).alloc (.cells (byteCells (List.replicate N 0)) 5)
  obtain ⟨g, hg_⟩ : ∃ g, g = w1.heap.size := ⟨_, rfl⟩
  rw [← hg_] at hb_ ⊢
  have HLg := Lib.hid (show w.heap.size ≤ g from by rw [hg_]; exact HT1.out.size)
  have HLg1 := Lib.hid (show w1.heap.size ≤ g from by omega)
  clear hg_
  generalize w1.alloc (.cells (byteCells (List.replicate N 0)) 5) = w2 at *
  have HB2 := Lib.hid hb_
  have HT2 := Lib.hid (HT1.out.trans ht_ fun _ _ e => e)
  clear hb_ ht_ HT1
  try simp only [zz]
  refine nR (.slice (some ⟨g, 0, none⟩) N N) (gx_assign rfl rfl) ?_;simp only [zz]
  go_upto_region 2 with fail
  refine wp_region_lit ?_
  refine nR (.slice (some ⟨g, 0, none⟩) N N) (exec_move rfl rfl) ?_;simp only [zz];refine nR (.slice A n c) (exec_move rfl rfl) ?_;simp only [zz];refine nR (.int .i64 (n : Int)) (gx_len rfl rfl Tryd.underlying33) ?_;simp only [zz];refine nR (.int .u8 (((UInt8.ofNat n).toNat : Nat) : Int)) (ix_i2b rfl rfl) ?_;simp only [zz];refine nR (.pointer (some ⟨g, 0, none⟩)) (gx_iaddr (i := 0) (sz := 1) rfl rfl rfl Tryd.underlying38 size_u8 (by omega) rfl) ?_;simp only [zz]
  refine wpList_storeU 0 (.int .u8 (((UInt8.ofNat n).toNat : Nat) : Int)) (wanted_none rfl) 5 (.tmp 16) (.tmp 15) rfl HB2.out rfl rfl (by rw [bc_size, List.length_replicate]; omega) ⟨rfl, rfl⟩ size_u8 ?_
  intro w3 hb ht
  rw [byteCells_set] at hb
  have HR3 := Lib.hid (show Row w3 g 5 (pkA l 0 ++ pkB R l 0) from by rw [← HZ0.out, HLEN.out]; exact hb)
  have HT3 := Lib.hid (HT2.out.trans ht fun k hk e => by have := HLg.out; have e : k = g := e; omega)
  clear hb ht HB2 HT2
  simp only [zz]
  go_upto_region 3 with fail
  refine wp_region_lit ?_
  refine nR (.slice (some ⟨g, 0, none⟩) N N) (exec_move rfl rfl) ?_;simp only [zz];refine nR (.slice (some ⟨g, 1, none⟩) (N - 1) (N - 1)) ((sx_l (n := N) (c := N) (i := 1) (by omega) (by omega) rfl rfl rfl).trans (by rw [Nat.zero_add])) ?_;simp only [zz];refine nR (.slice (some ⟨g, 1, none⟩) (N - 1) (N - 1)) (gx_assign rfl rfl) ?_;simp only [zz]
  go_upto_region 4 with fail
  refine wp_region_lit ?_
  refine nR (.slice (some ⟨g, 1, none⟩) (N - 1) (N - 1)) (exec_move rfl rfl) ?_;simp only [zz];refine nR (.slice A n c) (exec_move rfl rfl) ?_;simp only [zz];refine nR (.int .i64 (n : Int)) (gx_len rfl rfl Tryd.underlying33) ?_;simp only [zz];refine nR (.int .i64 ((2 * n : Nat) : Int)) (ix_mul rfl rfl rfl (by omega) (by omega)) ?_;simp only [zz];refine nR (.slice (some ⟨g, 1 + 2 * n, none⟩) (N - 1 - 2 * n) (N - 1 - 2 * n)) (sx_l (n := N - 1) (c := N - 1) (i := 2 * n) (by omega) (by omega) rfl rfl rfl) ?_;simp only [zz];refine nR (.slice (some ⟨g, 1 + 2 * n, none⟩) (N - 1 - 2 * n) (N - 1 - 2 * n)) (gx_assign rfl rfl) ?_;simp only [zz]
  go_upto_region 5 with fail
  refine wp_region_lit ?_
  refine nR (.slice A n c) (exec_move rfl rfl) ?_;simp only [zz];refine nR (.int .i64 (n : Int)) (gx_len rfl rfl Tryd.underlying33) ?_;simp only [zz];refine nR (.int .i64 0) (exec_move rfl rfl) ?_;simp only [zz]
  go_wp2_with fail
  go_loopg [5, 26] n (fun gk rv iv wr => ∃ i o k : Nat, iv = .int .i64 (i : Int) ∧ rv = .slice (some ⟨g, o, none⟩) k k ∧ i + gk = n ∧ k + size (l.take i) = R ∧ (0 < k → o = 1 + 2 * n + size (l.take i)) ∧ Row wr g 5 (pkA l i ++ pkB R l i) ∧ Turn nowhere w wr)
  case atStart => exact ⟨0, _, _, rfl, rfl, by omega, by have := HR.out; simp [size]; omega, fun _ => by simp [size], HR3.out, HT3.out⟩
  clear HR3 HT3
  obtain ⟨i, o, k, rfl, rfl, hgk, hk, hko, hrow, htr⟩ := hrel
  have HGK := Lib.hid hgk
  have HK := Lib.hid hk
  have HKO := Lib.hid hko
  have HROW := Lib.hid hrow
  have HTR := Lib.hid htr
  have yi : i ≤ n := by omega
  clear hgk hk hko hrow htr
  by_cases hlt : i < n
  · have y3 : (i : Int) < (n : Int) := by omega
    have HLT := Lib.hid hlt
    obtain ⟨b, off, a, m, ca, r, rfl, h1, h2, h3, h4, h5⟩ := (HL.out.still HTR.out).at_ hlt
    have HC := Lib.hid h2
    have HRM := Lib.hid h3.1
    have HR0 := Lib.hid h1
    have HPU := Lib.hid (pk_put h1 (pkB R l i))
    have HST := Lib.hid (size_take h1)
    have HSE := Lib.hid (size_le_take l (i + 1))
    have HA := Lib.hid (pkA_len (l := l) (i := i) (by rw [HLEN.out]; omega))
    have HA1 := Lib.hid (pkA_len (l := l) (i := i + 1) (by rw [HLEN.out]; omega))
    have HMK := Lib.hid (show m ≤ k by have e1 := HST.out; have e2 := HSE.out; have e3 := HBD.out; have e4 := HR.out; have e5 := HK.out; have e6 := h3.1; omega)
    have HBK := Lib.hid (pkB_len (N := R) (l := l) (i := i) (by have := HK.out; omega))
    clear h1 h2 h3 h4 h5
    go_upto_region 6 with fail
    refine wp_region_lit ?_
    refine nR (.bool true) (ix_lss rfl rfl rfl (decide_eq_true y3)) ?_;simp only [zz]
    go_upto_region 7 with fail
    refine wp_region_lit ?_
    refine nR (.int .i64 (i : Int)) (exec_move rfl rfl) ?_;simp only [zz];refine nR (.pointer (some ⟨b, off + i, none⟩)) (gx_iaddr (i := i) (sz := 1) rfl rfl rfl Tryd.underlying33 size_sl HLT.out (by omega)) ?_;simp only [zz];refine nR (.slice a m ca) (exec_load1 rfl rfl (by kernel_rfl) HC.out) ?_;simp only [zz];refine nR (.int .i64 (i : Int)) (gx_assign rfl rfl) ?_;simp only [zz];refine nR (.slice a m ca) (gx_assign rfl rfl) ?_;simp only [zz]
    go_upto_region 8 with fail
    refine wp_region_lit ?_
    refine nR (.slice (some ⟨g, 1, none⟩) (N - 1) (N - 1)) (exec_move rfl rfl) ?_;simp only [zz];refine nR (.int .i64 (i : Int)) (exec_move rfl rfl) ?_;simp only [zz];refine nR (.int .i64 ((2 * i : Nat) : Int)) (ix_mul rfl rfl rfl (by omega) (by omega)) ?_;simp only [zz];refine nR (.int .i64 (i : Int)) (exec_move rfl rfl) ?_;simp only [zz];refine nR (.int .i64 ((i + 1 : Nat) : Int)) (ix_add rfl rfl rfl (by omega) (by omega)) ?_;simp only [zz];refine nR (.int .i64 ((2 * (i + 1) : Nat) : Int)) (ix_mul rfl rfl rfl (by omega) (by omega)) ?_;simp only [zz];refine nR (.slice (some ⟨g, 1 + 2 * i, none⟩) 2 (N - 1 - 2 * i)) ((sx_lh (n := N - 1) (c := N - 1) (i := 2 * i) (j := 2 * (i + 1)) (by omega) (by have := HLTN.out; omega) (by have := HLTN.out; omega) rfl rfl rfl rfl).trans (by rw [show 2 * (i + 1) - 2 * i = 2 by omega])) ?_;simp only [zz];refine nR (.slice a m ca) (exec_move rfl rfl) ?_;simp only [zz];refine nR (.int .i64 (m : Int)) (gx_len rfl rfl Tryd.underlying38) ?_;simp only [zz]
    refine wpList_op rfl fun K9 HK9 => ?_
    go_wp2_with fail
    refine (put_walk wr g (1 + 2 * i) 2 (N - 1 - 2 * i) m _ _ HROW.out (by rw [List.length_append, HA.out, HLEN.out]; omega) (by decide) (by have e1 := HMK.out; have e2 := HK.out; have e3 := HR.out; omega)).mono ?_
    rintro e w4 ⟨rfl, hrow, ht⟩
    refine HK9.out _ _ ?_
    clear HK9
    try simp only [zz]
    rw [← HRM.out, HPU.out] at hrow
    have HROW4 := Lib.hid hrow
    have HT4 := Lib.hid (HTR.out.trans ht fun k hk e => by have := HLg.out; have e : k = g := e; omega)
    clear hrow ht HROW
    try simp only [zz]
    go_upto_region 9 with fail
    refine wp_region_lit ?_
    refine nR (.slice (some ⟨g, o, none⟩) k k) (exec_move rfl rfl) ?_;simp only [zz];refine nR (.slice (some ⟨g, o, none⟩) k k) (exec_move rfl rfl) ?_;simp only [zz];refine nR (.slice a m ca) (exec_move rfl rfl) ?_;simp only [zz]
    obtain ⟨b', off', a', m', ca', r', e1, h1, h2, h3, h4, h5⟩ := (HL.out.still HT4.out).at_ HLT.out
    have hoff : b' = b ∧ off' = off := by injection e1 with e1; injection e1 with e2 e3; exact ⟨e2.symm, e3.symm⟩
    obtain ⟨rfl, rfl⟩ := hoff
    have hrr : r' = r := by rw [HR0.out] at h1; injection h1 with h1; exact h1.symm
    subst hrr
    have hbs : Bs w4 a m r' := by
      have hq := HC.out
      have hq2 : w4.cell? ⟨b', off' + i, none⟩ = some (.slice a m ca) := by
        obtain ⟨b2, off2, a2, m2, ca2, r2, f1, f2, f3, f4, f5, f6⟩ := HL.out.at_ HLT.out
        have : b2 = b' ∧ off2 = off' := by injection f1 with f1; injection f1 with f7 f8; exact ⟨f7.symm, f8.symm⟩
        obtain ⟨rfl, rfl⟩ := this
        rw [HTR.out.cell (World.block_lt_of_cell? _ _ f3) (fun e => e)] at hq
        rw [HT4.out.cell (World.block_lt_of_cell? _ _ f3) (fun e => e)]
        exact hq
      rw [hq2] at h2
      injection h2 with h2
      injection h2 with g1 g2 g3
      subst g1 g2 g3
      exact h3
    clear h1 h2 h3 h4 h5 e1
    have hlo : 0 < k → o = (pkA l (i + 1)).length + size (l.take i) := fun hp => by rw [HA1.out, HLEN.out]; exact HKO.out hp
    obtain ⟨w5, hcp, hrow5, ht5⟩ := copy_row (g := g) (o := (pkA l (i + 1)).length + size (l.take i)) (k := k) (c := k) (ca := ca) (ty := 3) HROW4.out HMK.out (by rw [List.length_append, HBK.out, HA1.out, ← HK.out]; have := HMK.out; omega) hbs
    rw [pk_copy HR0.out _ (by have e1 := HSE.out; have e2 := HBD.out; have e3 := HR.out; omega)] at hrow5
    have hcp2 : (Builtin.copy_ #[38, 38] 3 #[.slice (some ⟨g, o, none⟩) k k, .slice a m ca]).run Tryd.prog w4 = .ok (.int .i64 (m : Int)) w5 := by
      rcases Nat.eq_zero_or_pos k with h0 | hp
      · have hm0 : m = 0 := by have := HMK.out; omega
        subst h0 hm0
        have e1 := run_copy_none (P := Tryd.prog) w4 38 38 3 5 (some ⟨g, (pkA l (i + 1)).length + size (l.take i), none⟩) a 0 0 0 ca Tryd.underlying38 size_u8 (by simp)
        have e2 := run_copy_none (P := Tryd.prog) w4 38 38 3 5 (some ⟨g, o, none⟩) a 0 0 0 ca Tryd.underlying38 size_u8 (by simp)
        rw [e2, ← e1, hcp]
      · rw [hlo hp]; exact hcp
    have HCP := Lib.hid hcp2
    have HROW5 := Lib.hid hrow5
    have HT5 := Lib.hid (HT4.out.trans ht5 fun k hk e => by have := HLg.out; have e : k = g := e; omega)
    clear hbs hlo hcp hrow5 ht5 hcp2 HROW4
    refine wpList_run (v := .int .i64 (m : Int)) (w' := w5) (wanted_none rfl) (exec_copy rfl rfl rfl HCP.out) ?_
    try simp only [zz]
    obtain ⟨o', ho'⟩ : ∃ o', o' = if k = m then o else o + m := ⟨_, rfl⟩
    obtain ⟨k', hk'⟩ : ∃ k', k' = k - m := ⟨_, rfl⟩
    have HO' := Lib.hid ho'
    have HK' := Lib.hid hk'
    clear ho' hk'
    refine nR (.slice (some ⟨g, o', none⟩) k' k') ((sx_l' (n := k) (c := k) (i := m) HMK.out (Nat.le_refl _) rfl rfl rfl).trans (by rw [HO'.out, HK'.out])) ?_;simp only [zz];refine nR (.slice (some ⟨g, o', none⟩) k' k') (gx_assign rfl rfl) ?_;simp only [zz]
    go_upto_region 10 with fail
    refine wp_region_lit ?_
    refine nR (.int .i64 ((i + 1 : Nat) : Int)) (ix_add rfl rfl rfl (by omega) (by omega)) ?_;simp only [zz];refine nR (.int .i64 ((i + 1 : Nat) : Int)) (exec_move rfl rfl) ?_;simp only [zz]
    go_wp2_with fail
    go_roundg (gk - 1)
    case measure => have := HGK.out; omega
    case rel => exact ⟨i + 1, o', k', rfl, rfl, by have := HGK.out; omega, by rw [HST.out, HK'.out, HRM.out]; have e1 := HK.out; have e2 := HMK.out; omega, fun hp => by
      rw [HST.out, HO'.out, HRM.out, if_neg (by have := HK'.out; omega), HKO.out (by have := HK'.out; omega)]; omega, HROW5.out, HT5.out⟩
  · obtain rfl : i = n := by have := HGK.out; omega
    go_upto_region 6 with fail
    refine wp_region_lit ?_
    refine nR (.bool false) (ix_lss rfl rfl rfl (decide_eq_false (by omega))) ?_;simp only [zz]
    go_upto_region 11 with fail
    refine wp_region_lit ?_
    refine nR (.slice (some ⟨g, 0, none⟩) N N) (exec_move rfl rfl) ?_;simp only [zz];refine nR (.slice (some ⟨g, 0, none⟩) N N) (gx_assign rfl rfl) ?_;simp only [zz]
    go_wp2_with fail
    go_ret
    have h := HROW.out
    rw [← HLEN.out, HEND.out] at h
    exact ⟨g, rfl, HLg.out, h, HTR.out⟩
end Go.Proofs.YtelipeoilcepbaaDoor
