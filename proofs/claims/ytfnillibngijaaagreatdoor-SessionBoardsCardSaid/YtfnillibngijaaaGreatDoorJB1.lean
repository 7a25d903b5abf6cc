/-
  Texts in one file: ShM ShO Alw Awk Rws Build Grw Grc Gri. Conditions: the tables and the errors read as the program's text lays them.
-/
import Derived.Test.YtfnillibngijaaaGreatDoorJB0
import Derived.Laws.BitsAllLaws
import Derived.ProofKit
import Derived.ChangeSame
import Derived.Deep.Slices
import Derived.Deep.Fields
import Derived.Lib.SmallJoins
import Derived.SizedLaws
import Derived.Laws.Tables
import Derived.Laws.AppendOwnNone
import Derived.Laws.OwnMore
import Derived.Maps.AppendAt
import Derived.Laws.CopyRow
import Derived.Lib.AppendZerosOnto
import Derived.Lib.Overlaps
import Derived.Laws.Externs
namespace Go.Proofs.YtfnillibngijaaaGreatDoor.Sh
set_option linter.unusedVariables false
set_option linter.unusedSimpArgs false
abbrev B8 := List UInt8
abbrev Wd := BitVec 32
def rot (x : Wd) (n : Nat) : Wd := x >>> n ||| x <<< (32 - n)
def S0 (x : Wd) : Wd := rot x 2 ^^^ rot x 13 ^^^ rot x 22
def S1 (x : Wd) : Wd := rot x 6 ^^^ rot x 11 ^^^ rot x 25
def s0 (x : Wd) : Wd := rot x 7 ^^^ rot x 18 ^^^ x >>> 3
def s1 (x : Wd) : Wd := rot x 17 ^^^ rot x 19 ^^^ x >>> 10
def ch (e f g : Wd) : Wd := (e &&& f) ^^^ (~~~ e &&& g)
def maj (a b c : Wd) : Wd := (a &&& b) ^^^ (a &&& c) ^^^ (b &&& c)
def K : List Nat := [0x428a2f98, 0x71374491, 0xb5c0fbcf, 0xe9b5dba5, 0x3956c25b, 0x59f111f1, 0x923f82a4, 0xab1c5ed5,
  0xd807aa98, 0x12835b01, 0x243185be, 0x550c7dc3, 0x72be5d74, 0x80deb1fe, 0x9bdc06a7, 0xc19bf174,
  0xe49b69c1, 0xefbe4786, 0x0fc19dc6, 0x240ca1cc, 0x2de92c6f, 0x4a7484aa, 0x5cb0a9dc, 0x76f988da,
  0x983e5152, 0xa831c66d, 0xb00327c8, 0xbf597fc7, 0xc6e00bf3, 0xd5a79147, 0x06ca6351, 0x14292967,
  0x27b70a85, 0x2e1b2138, 0x4d2c6dfc, 0x53380d13, 0x650a7354, 0x766a0abb, 0x81c2c92e, 0x92722c85,
  0xa2bfe8a1, 0xa81a664b, 0xc24b8b70, 0xc76c51a3, 0xd192e819, 0xd6990624, 0xf40e3585, 0x106aa070,
  0x19a4c116, 0x1e376c08, 0x2748774c, 0x34b0bcb5, 0x391c0cb3, 0x4ed8aa4a, 0x5b9cca4f, 0x682e6ff3,
  0x748f82ee, 0x78a5636f, 0x84c87814, 0x8cc70208, 0x90befffa, 0xa4506ceb, 0xbef9a3f7, 0xc67178f2]
def kt (t : Nat) : Wd := BitVec.ofNat 32 (K.getD t 0)
@[ext] structure H8 where
  a : Wd
  b : Wd
  c : Wd
  d : Wd
  e : Wd
  f : Wd
  g : Wd
  h : Wd
  deriving DecidableEq
def H8.l (s : H8) : List Wd := [s.a, s.b, s.c, s.d, s.e, s.f, s.g, s.h]
def H0 : H8 := ⟨0x6a09e667, 0xbb67ae85, 0x3c6ef372, 0xa54ff53a, 0x510e527f, 0x9b05688c, 0x1f83d9ab, 0x5be0cd19⟩
def wide (x : UInt8) : Wd := BitVec.ofNat 32 x.toNat
def wordAt (p : B8) (i : Nat) : Wd := wide (p.getD i 0) <<< 24 ||| wide (p.getD (i + 1) 0) <<< 16 ||| wide (p.getD (i + 2) 0) <<< 8 ||| wide (p.getD (i + 3) 0)
def nxt (p : B8) (l : List Wd) (t : Nat) : Wd := if t < 16 then wordAt p (4 * t) else s1 (l.getD (t - 2) 0) + l.getD (t - 7) 0 + s0 (l.getD (t - 15) 0) + l.getD (t - 16) 0
def wl (p : B8) : Nat → List Wd
  | 0 => []
  | n + 1 => wl p n ++ [nxt p (wl p n) n]
theorem wl_len (p : B8) : ∀ n, (wl p n).length = n
  | 0 => rfl
  | n + 1 => by rw [wl, List.length_append, wl_len p n]; rfl
theorem wl_get (p : B8) {t : Nat} : ∀ {n m}, t < n → n ≤ m → (wl p m).getD t 0 = (wl p n).getD t 0
  | n, 0, h, hm => by omega
  | n, m + 1, h, hm => by
    by_cases he : n = m + 1
    · rw [he]
    · rw [wl, List.getD_eq_getElem?_getD, List.getElem?_append_left (by rw [wl_len]; omega), ← List.getD_eq_getElem?_getD]
      exact wl_get p h (by omega)
def t1 (s : H8) (k w : Wd) : Wd := s.h + S1 s.e + ch s.e s.f s.g + k + w
def t2 (s : H8) : Wd := S0 s.a + maj s.a s.b s.c
def rnd (s : H8) (k w : Wd) : H8 := ⟨t1 s k w + t2 s, s.a, s.b, s.c, s.d + t1 s k w, s.e, s.f, s.g⟩
def rs (s : H8) (l : List Wd) : Nat → H8
  | 0 => s
  | t + 1 => rnd (rs s l t) (kt t) (l.getD t 0)
def add8 (s t : H8) : H8 := ⟨s.a + t.a, s.b + t.b, s.c + t.c, s.d + t.d, s.e + t.e, s.f + t.f, s.g + t.g, s.h + t.h⟩
def comp (s : H8) (p : B8) : H8 := add8 s (rs s (wl p 64) 64)
/-- so many pieces -/
def blk : Nat → H8 → B8 → H8
  | 0, h, _ => h
  | n + 1, h, l => blk n (comp h (l.take 64)) (l.drop 64)
theorem blk_add (h : H8) (l : B8) : ∀ n m, blk (n + m) h l = blk m (blk n h l) (l.drop (64 * n))
  | 0, m => by rw [Nat.zero_add, Nat.mul_zero, List.drop_zero]; rfl
  | n + 1, m => by
    rw [Nat.succ_add, blk, blk, blk_add (comp h (l.take 64)) (l.drop 64) n m, List.drop_drop]
    congr 2
    omega
theorem blk_succ (h : H8) (l : B8) (n : Nat) : blk (n + 1) h l = comp (blk n h l) ((l.drop (64 * n)).take 64) := by
  rw [blk_add]; rfl
theorem blk_app (h : H8) (r : B8) : ∀ (n : Nat) (l : B8), 64 * n ≤ l.length → blk n h (l ++ r) = blk n h l
  | 0, l, hl => rfl
  | n + 1, l, hl => by
    rw [blk, blk, List.take_append_of_le_length (by omega), List.drop_append_of_le_length (by omega)]
    exact blk_app _ r n _ (by rw [List.length_drop]; omega)
/-- a piece ahead -/
theorem blk_cons (h : H8) (p r : B8) (n : Nat) (hp : p.length = 64) : blk (n + 1) h (p ++ r) = blk n (comp h p) r := by
  rw [blk, List.take_left' hp, List.drop_left' hp]
def low (x : Wd) : UInt8 := UInt8.ofNat x.toNat
def outw (x : Wd) : B8 := [low (x >>> 24), low (x >>> 16), low (x >>> 8), low x]
def out (s : H8) : B8 := outw s.a ++ outw s.b ++ outw s.c ++ outw s.d ++ outw s.e ++ outw s.f ++ outw s.g ++ outw s.h
def zs (n : Nat) : B8 := List.replicate n 0
theorem zs_len (n : Nat) : (zs n).length = n := List.length_replicate
/-- a number of 64 bits in eight bytes -/
def be8 (n : Nat) : B8 := (List.range 8).map fun i => UInt8.ofNat (n / 2 ^ (56 - 8 * i))
theorem be8_len (n : Nat) : (be8 n).length = 8 := rfl
def bits (n : Nat) : Nat := 8 * n % 18446744073709551616
def pad (l : B8) : B8 := l ++ [0x80] ++ zs ((119 - l.length % 64) % 64) ++ be8 (bits l.length)
def sum (l : B8) : B8 := out (blk ((pad l).length / 64) H0 (pad l))
theorem sum_len (l : B8) : (sum l).length = 32 := rfl
/-- what finish does with the rest behind the whole pieces: n bytes were taken in all -/
def fin (h : H8) (n : Nat) (r : B8) : H8 :=
  if r.length < 56 then comp h (r ++ [0x80] ++ zs (55 - r.length) ++ be8 (bits n))
  else comp (comp h (r ++ [0x80] ++ zs (63 - r.length))) (zs 56 ++ be8 (bits n))
theorem sum_fin (l : B8) (n : Nat) (hn : 64 * n ≤ l.length) (hm : l.length < 64 * n + 64) : sum l = out (fin (blk n H0 l) l.length (l.drop (64 * n))) := by
  have hr : (l.drop (64 * n)).length = l.length - 64 * n := List.length_drop
  unfold sum
  congr 1
  unfold fin
  by_cases h : (l.drop (64 * n)).length < 56
  · rw [if_pos h]
    have hl : (pad l).length / 64 = n + 1 := by
      simp only [pad, List.length_append, List.length_singleton, zs_len, be8_len]
      omega
    rw [hl, blk_succ]
    have e1 : pad l = l ++ ([0x80] ++ zs ((119 - l.length % 64) % 64) ++ be8 (bits l.length)) := by unfold pad; simp only [List.append_assoc]
    rw [e1, blk_app _ _ _ _ hn, List.drop_append_of_le_length hn]
    congr 1
    have e2 : (119 - l.length % 64) % 64 = 55 - (l.drop (64 * n)).length := by omega
    rw [e2, List.take_of_length_le (by simp only [List.length_append, List.length_singleton, zs_len, be8_len]; omega)]
    simp only [List.append_assoc]
  · rw [if_neg h]
    have hl : (pad l).length / 64 = n + 1 + 1 := by
      simp only [pad, List.length_append, List.length_singleton, zs_len, be8_len]
      omega
    have e2 : zs ((119 - l.length % 64) % 64) = zs (63 - (l.drop (64 * n)).length) ++ zs 56 := by
      unfold zs
      rw [List.replicate_append_replicate]
      congr 1
      omega
    have e1 : pad l = l ++ (([0x80] ++ zs (63 - (l.drop (64 * n)).length)) ++ (zs 56 ++ be8 (bits l.length))) := by unfold pad; rw [e2]; simp only [List.append_assoc]
    have e3 : (pad l).drop (64 * n) = ((l.drop (64 * n)) ++ [0x80] ++ zs (63 - (l.drop (64 * n)).length)) ++ (zs 56 ++ be8 (bits l.length)) := by
      rw [e1, List.drop_append_of_le_length hn]; simp only [List.append_assoc]
    have e4 : ((l.drop (64 * n)) ++ [0x80] ++ zs (63 - (l.drop (64 * n)).length)).length = 64 := by
      simp only [List.length_append, List.length_singleton, zs_len]; omega
    rw [hl, Nat.add_assoc, blk_add, e3, blk_cons _ _ _ _ e4, blk]
    have e5 : blk n H0 (pad l) = blk n H0 l := by rw [e1, blk_app _ _ _ _ hn]
    rw [e5, List.take_of_length_le (by simp only [List.length_append, zs_len, be8_len]; omega)]
    rfl
def fit (k : B8) : B8 := (if 64 < k.length then sum k else k)
def full (k : B8) : B8 := fit k ++ zs (64 - (fit k).length)
theorem fit_le (k : B8) : (fit k).length ≤ 64 := by
  unfold fit
  split
  · rw [sum_len]; omega
  · omega
theorem full_len (k : B8) : (full k).length = 64 := by
  have := fit_le k
  unfold full
  rw [List.length_append, zs_len]
  omega
def mask (k : B8) (x : UInt8) : B8 := k.map fun c => c ^^^ x
theorem mask_len (k : B8) (x : UInt8) : (mask k x).length = k.length := List.length_map _
def mac (key b : B8) : B8 := sum (mask (full key) 0x5c ++ sum (mask (full key) 0x36 ++ b))
theorem mac_len (key b : B8) : (mac key b).length = 32 := rfl
/-- as the code does it: what was taken ahead, then the rest -/
def finish (h : H8) (done : Nat) (b : B8) : B8 := out (fin (blk (b.length / 64) h b) (done + b.length) (b.drop (64 * (b.length / 64))))
theorem sum_finish (b : B8) : finish H0 0 b = sum b := by
  unfold finish
  rw [sum_fin b (b.length / 64) (by omega) (by omega), Nat.zero_add]
theorem sum_finish1 (p b : B8) (hp : p.length = 64) : finish (comp H0 p) 64 b = sum (p ++ b) := by
  unfold finish
  rw [sum_fin (p ++ b) (b.length / 64 + 1) (by rw [List.length_append]; omega) (by rw [List.length_append]; omega), blk_cons _ _ _ _ hp]
  rw [List.length_append, hp]
  have e : (p ++ b).drop (64 * (b.length / 64 + 1)) = b.drop (64 * (b.length / 64)) := by
    rw [List.drop_append, hp, List.drop_eq_nil_of_le (by omega), List.nil_append]
    congr 1
  rw [e]
theorem mac_finish (key b : B8) : mac key b = finish (comp H0 (mask (full key) 0x5c)) 64 (finish (comp H0 (mask (full key) 0x36)) 64 b) := by
  rw [sum_finish1 _ _ (by rw [mask_len, full_len]), sum_finish1 _ _ (by rw [mask_len, full_len])]
  rfl
/-- a half byte as a digit -/
def dig (n : Nat) : UInt8 := UInt8.ofNat (if n < 10 then 48 + n else 87 + n)
def hex (l : B8) : B8 := l.flatMap fun c => [dig (c.toNat / 16), dig (c.toNat % 16)]
def macT (key b : B8) : B8 := hex ((mac key b).take 8)
end Go.Proofs.YtfnillibngijaaaGreatDoor.Sh
namespace Go.Proofs.YtfnillibngijaaaGreatDoor
open Go.RowKit
set_option linter.unusedVariables false
set_option linter.unusedSimpArgs false
section
variable {a : Act} {o : Oper} {W : World} {x y : Operand} {t u : TypeId}
theorem wd_lt (n : Sh.Wd) : n.toNat < 4294967296 := n.isLt
theorem wd_add {n m : Sh.Wd} (ho : o.op = .binOp .add t x y u) (hx : a.eval x = .int .u32 (n.toNat : Int)) (hy : a.eval y = .int .u32 (m.toNat : Int)) : (execOp a.eval o).run Tryz.prog W = .ok (.value (.int .u32 ((n + m).toNat : Int))) W := by
  obtain ⟨r, hr⟩ : ∃ r : Nat, (n + m).toNat = r := ⟨_, rfl⟩
  rw [hr]
  unfold execOp
  simp only [ho, hx, hy]
  go_simp
  rw [IntKind.wrap_u32', ← hr, BitVec.toNat_add]
  omega
theorem wd_and {n m : Sh.Wd} (ho : o.op = .binOp .and t x y u) (hx : a.eval x = .int .u32 (n.toNat : Int)) (hy : a.eval y = .int .u32 (m.toNat : Int)) : (execOp a.eval o).run Tryz.prog W = .ok (.value (.int .u32 ((n &&& m).toNat : Int))) W := by
  obtain ⟨r, hr⟩ : ∃ r : Nat, (n &&& m).toNat = r := ⟨_, rfl⟩
  rw [hr]
  unfold execOp
  simp only [ho, hx, hy]
  go_simp
  rw [u32_and_nat _ _ (wd_lt n) (wd_lt m), ← hr, BitVec.toNat_and]
theorem wd_or {n m : Sh.Wd} (ho : o.op = .binOp .or t x y u) (hx : a.eval x = .int .u32 (n.toNat : Int)) (hy : a.eval y = .int .u32 (m.toNat : Int)) : (execOp a.eval o).run Tryz.prog W = .ok (.value (.int .u32 ((n ||| m).toNat : Int))) W := by
  obtain ⟨r, hr⟩ : ∃ r : Nat, (n ||| m).toNat = r := ⟨_, rfl⟩
  rw [hr]
  unfold execOp
  simp only [ho, hx, hy]
  go_simp
  rw [u32_or_nat _ _ (wd_lt n) (wd_lt m), ← hr, BitVec.toNat_or]
theorem wd_xor {n m : Sh.Wd} (ho : o.op = .binOp .xor t x y u) (hx : a.eval x = .int .u32 (n.toNat : Int)) (hy : a.eval y = .int .u32 (m.toNat : Int)) : (execOp a.eval o).run Tryz.prog W = .ok (.value (.int .u32 ((n ^^^ m).toNat : Int))) W := by
  obtain ⟨r, hr⟩ : ∃ r : Nat, (n ^^^ m).toNat = r := ⟨_, rfl⟩
  rw [hr]
  unfold execOp
  simp only [ho, hx, hy]
  go_simp
  rw [u32_xor_nat _ _ (wd_lt n) (wd_lt m), ← hr, BitVec.toNat_xor]
theorem wd_not {n : Sh.Wd} (ho : o.op = .unOp .xor 88 x) (hx : a.eval x = .int .u32 (n.toNat : Int)) : (execOp a.eval o).run Tryz.prog W = .ok (.value (.int .u32 ((~~~ n).toNat : Int))) W := by
  obtain ⟨r, hr⟩ : ∃ r : Nat, (~~~ n).toNat = r := ⟨_, rfl⟩
  rw [hr]
  unfold execOp
  simp only [ho, hx]
  go_simp
  rw [show (if IntKind.u32.signed = true then (-1 : Int) else IntKind.u32.max) = ((4294967295 : Nat) : Int) from rfl, u32_xor_nat 4294967295 _ (by omega) (wd_lt n), ← hr]
  congr 1
theorem shr_nat (n : Sh.Wd) (s : Nat) : (n >>> s).toNat = n.toNat / 2 ^ s := by rw [BitVec.toNat_ushiftRight, Nat.shiftRight_eq_div_pow]
theorem shl_nat (n : Sh.Wd) (s : Nat) : (n <<< s).toNat = n.toNat * 2 ^ s % 4294967296 := by rw [BitVec.toNat_shiftLeft, Nat.shiftLeft_eq]
theorem wd_shrc {n : Sh.Wd} {s : Nat} (ho : o.op = .binOp .shr 88 x y u) (hx : a.eval x = .int .u32 (n.toNat : Int)) (hy : a.eval y = .int .u64 (s : Int)) (hs : s < 32) : (execOp a.eval o).run Tryz.prog W = .ok (.value (.int .u32 ((n >>> s).toNat : Int))) W := by
  obtain ⟨r, hr⟩ : ∃ r : Nat, (n >>> s).toNat = r := ⟨_, rfl⟩
  rw [hr]
  unfold execOp
  simp only [ho, hx, hy]
  go_simp
  rw [← hr, shr_nat]
  push_cast
  rfl
theorem wd_shlc {n : Sh.Wd} {s : Nat} (ho : o.op = .binOp .shl 88 x y u) (hx : a.eval x = .int .u32 (n.toNat : Int)) (hy : a.eval y = .int .u64 (s : Int)) (hs : s < 32) : (execOp a.eval o).run Tryz.prog W = .ok (.value (.int .u32 ((n <<< s).toNat : Int))) W := by
  obtain ⟨r, hr⟩ : ∃ r : Nat, (n <<< s).toNat = r := ⟨_, rfl⟩
  rw [hr]
  unfold execOp
  simp only [ho, hx, hy]
  go_simp
  rw [IntKind.wrap_u32', ← hr, shl_nat, Int.natCast_emod, Int.natCast_mul, Int.natCast_pow]
  rfl
theorem wd_wide {n : UInt8} (ho : o.op = .convert 5 88 x) (hx : a.eval x = .int .u8 (n.toNat : Int)) : (execOp a.eval o).run Tryz.prog W = .ok (.value (.int .u32 ((Sh.wide n).toNat : Int))) W := by
  have hn : n.toNat < 256 := n.toNat_lt
  obtain ⟨r, hr⟩ : ∃ r : Nat, (Sh.wide n).toNat = r := ⟨_, rfl⟩
  rw [hr]
  unfold execOp
  simp only [ho, hx]
  go_simp
  rw [← hr]
  unfold Sh.wide
  rw [BitVec.toNat_ofNat, IntKind.wrap_u32']
  omega
theorem wd_low {n : Sh.Wd} (ho : o.op = .convert 88 5 x) (hx : a.eval x = .int .u32 (n.toNat : Int)) : (execOp a.eval o).run Tryz.prog W = .ok (.value (.int .u8 ((Sh.low n).toNat : Int))) W := by
  obtain ⟨r, hr⟩ : ∃ r : Nat, (Sh.low n).toNat = r := ⟨_, rfl⟩
  rw [hr]
  unfold execOp
  simp only [ho, hx]
  go_simp
  rw [← hr]
  unfold Sh.low
  rw [UInt8.toNat_ofNat', IntKind.wrap_u8']
  omega
theorem wd_cvn {n : Nat} (ho : o.op = .convert 3 94 x) (hx : a.eval x = .int .i64 (-(n : Int))) (h1 : 1 ≤ n) (hn : n < 32) : (execOp a.eval o).run Tryz.prog W = .ok (.value (.int .u64 ((18446744073709551616 - n : Nat) : Int))) W := by
  unfold execOp
  simp only [ho, hx]
  go_simp
  rw [IntKind.wrap_u64]
  omega
theorem wd_and31 {n : Nat} (ho : o.op = .binOp .and 94 x (.const (.int .u64 31)) 94) (hx : a.eval x = .int .u64 ((18446744073709551616 - n : Nat) : Int)) (h1 : 1 ≤ n) (hn : n < 32) : (execOp a.eval o).run Tryz.prog W = .ok (.value (.int .u64 ((32 - n : Nat) : Int))) W := by
  unfold execOp
  simp only [ho, hx]
  go_simp
  have h := u64_and_nat (18446744073709551616 - n) 31 (by omega) (by omega)
  rw [nat_mask5] at h
  rw [show (31 : Int) = ((31 : Nat) : Int) from rfl, h]
  omega
theorem wd_sub32 {n : Nat} (ho : o.op = .binOp .sub 94 (.const (.int .u64 32)) y 94) (hy : a.eval y = .int .u64 ((32 - n : Nat) : Int)) (hn : n < 32) : (execOp a.eval o).run Tryz.prog W = .ok (.value (.int .u64 (n : Int))) W := by
  unfold execOp
  simp only [ho, hy]
  go_simp
  rw [IntKind.wrap_u64]
  omega
end
end Go.Proofs.YtfnillibngijaaaGreatDoor
namespace Go.Proofs.YtfnillibngijaaaGreatDoor
section
variable {P : Program} {md : Region.Mode} {ops : Array Oper} {Q : Exit → Act → World → Prop} {S : World → Prop}
/-- whatever order is picked, and S holds behind each operation -/
def Alw (P : Program) (md : Region.Mode) (ops : Array Oper) (Q : Exit → Act → World → Prop) (S : World → Prop) : Nat → Array Bool → Act → World → Prop
  | 0, l, a, w => Region.ready md ops l = [] ∧ Q .normal a w
  | n + 1, l, a, w => (Region.ready md ops l = [] → Q .normal a w) ∧
      ∀ i ∈ Region.ready md ops l, wpOp P ops Q i (fun a' w' => S w' ∧ Alw P md ops Q S n (l.setIfInBounds i true) a' w') a w
theorem alw_any : ∀ (n : Nat) (l : Array Bool) (a : Act) (w : World), Alw P md ops Q S n l a w → wpAny P md ops Q n l a w
  | 0, _, _, _, h => h
  | n + 1, _, _, _, h => ⟨h.1, fun i hi => wpOp_mono (fun _ _ h' => alw_any n _ _ _ h'.2) (h.2 i hi)⟩
theorem alw_first {i : Nat} {o : Oper} {v : Value} (hi : ops[i]? = some o) (hsel : ∀ (j : Nat) (o : Oper) cs b, ops[j]? = some o → o.op ≠ .select cs b) :
    ∀ (n : Nat) (l : Array Bool) (a : Act) (w : World),
      (∀ j oj, ops[j]? = some oj → j ≠ i → l.getD j true = false → (∀ e ∈ oj.after, Region.binds md e = true → e.on ≠ i) → o.apart ops oj = true) →
      i ∈ Region.ready md ops l → YieldsIf P ops S o v a → S w → (∀ c a w, Q (.panic c) (a.put o.dst v) w → Q (.panic c) a w) →
      Alw P md ops Q S n (l.setIfInBounds i true) (a.put o.dst v) w → Alw P md ops Q S (n + 1) l a w := by
  have hread : ∀ (l : Array Bool) (j : Nat), i ∈ Region.ready md ops l → j ∈ Region.ready md ops l → j ≠ i → ∃ oj, ops[j]? = some oj ∧ l.getD j true = false ∧ ∀ e ∈ oj.after, Region.binds md e = true → e.on ≠ i := by
    intro l j hr hj hji
    obtain ⟨h0, oj, hoj, hall⟩ := mem_ready.1 hj
    have hun := (mem_ready.1 hr).1
    refine ⟨oj, hoj, h0, fun e he hb heq => ?_⟩
    have h2 := hall e he hb
    rw [heq] at h2
    rcases Nat.lt_or_ge i l.size with hlt | hge
    · rw [Array.getD_eq_getD_getElem?, Array.getElem?_eq_getElem hlt] at h2 hun
      simp only [Option.getD_some] at h2 hun
      rw [h2] at hun
      cases hun
    · rw [Array.getD_eq_getD_getElem?, Array.getElem?_eq_none hge] at h2
      cases h2
  intro n
  induction n with
  | zero =>
    intro l a w _ hr hy hS _ H
    refine ⟨fun h => (by rw [h] at hr; cases hr), fun j hj => ?_⟩
    by_cases hji : j = i
    · subst hji
      exact hy.wpOp hi hS ⟨hS, H⟩
    · have := ready_mono hj hji
      rw [H.1] at this
      cases this
  | succ n ih =>
    intro l a w hfree hr hy hS hQ H
    refine ⟨fun h => (by rw [h] at hr; cases hr), fun j hj => ?_⟩
    by_cases hji : j = i
    · subst hji
      exact hy.wpOp hi hS ⟨hS, H⟩
    · obtain ⟨oj, hoj, hjun, hno⟩ := hread l j hr hj hji
      have h1 := H.2 j (ready_mono hj hji)
      have h2 := wpOp_putIf hoj (hfree j oj hoj hji hjun hno) (fun cs b => hsel i o cs b hi) (fun cs b => hsel j oj cs b hoj) hQ hy h1
      refine wpOp_mono (fun a' w' h3 => ⟨h3.2.1, ih (l.setIfInBounds j true) a' w' ?_ (ready_mono hr (Ne.symm hji)) h3.1 h3.2.1 hQ ?_⟩) h2
      · intro m om hm hmi hun hn
        refine hfree m om hm hmi ?_ hn
        by_cases hjm : j = m
        · subst hjm
          exact hjun
        · rwa [getD_set_ne true hjm] at hun
      · rw [Array.setIfInBounds_comm _ _ hji]
        exact h3.2.2
theorem alw_take {i : Nat} {o : Oper} {v : Value} {n : Nat} {l : Array Bool} {a : Act} {w : World} (hi0 : ops.toList[i]? = some o) (hs : Region.noSelect ops = true)
    (hf : (Region.free md ops l i && (Region.ready md ops l).contains i) = true)
    (hQ : ∀ c a w, Q (.panic c) (a.put o.dst v) w → Q (.panic c) a w) (hy : YieldsIf P ops S o v a) (hS : S w)
    (h : Alw P md ops Q S n (l.setIfInBounds i true) (a.put o.dst v) w) : Alw P md ops Q S (n + 1) l a w := by
  have hi : ops[i]? = some o := by rw [← hi0, Array.getElem?_toList]
  simp only [Bool.and_eq_true] at hf
  exact alw_first hi (Region.noSelect_spec hs) n l a w (Region.free_spec hi hf.1) (by simpa using hf.2) hy hS hQ h
theorem alw_step {i : Nat} {o : Oper} {n : Nat} {l : Array Bool} {a : Act} {w : World} (hr : Region.ready md ops l = [i]) (ho0 : ops.toList[i]? = some o) (hw : Region.wanted o (yielded ops a.tmps) = true)
    (h : ∀ K : Act → World → Prop, Shut (∀ a' w', (S w' ∧ Alw P md ops Q S n (l.setIfInBounds i true) a' w') → K a' w') → o.wp P a w K Q) : Alw P md ops Q S (n + 1) l a w := by
  have ho : ops[i]? = some o := by rw [← ho0, Array.getElem?_toList]
  refine ⟨fun h0 => (by rw [h0] at hr; cases hr), fun j hj => ?_⟩
  rw [hr] at hj
  obtain rfl : j = i := by simpa using hj
  unfold wpOp
  simp only [ho, hw, if_true]
  exact .inl (h _ fun _ _ h' => h')
theorem alw_done {n : Nat} {l : Array Bool} {a : Act} {w : World} (hr : Region.ready md ops l = []) (h : Q .normal a w) : Alw P md ops Q S n l a w := by
  cases n with
  | zero => exact ⟨hr, h⟩
  | succ n => exact ⟨fun _ => h, fun j hj => by rw [hr] at hj; cases hj⟩
theorem wp_region_alw (S : World → Prop) {id : Nat} {a : Act} {w : World} (hm : P.follows .mixedOrders = true)
    (h : Alw P .any ops (NoPanic Q) S ops.size (Array.replicate ops.size false) a w.drew) : (Code.region id ops true).wp P Q a w :=
  wp_region_noPanic (wp_region_any hm (alw_any _ _ _ _ h))
end
end Go.Proofs.YtfnillibngijaaaGreatDoor
namespace Go.Proofs.YtfnillibngijaaaGreatDoor
open Go.RowKit
set_option linter.unusedVariables false
set_option linter.unusedSimpArgs false
theorem wpList_new {P : Program} {ops : Array Oper} {rest : List Oper} {o1 o2 : Oper} {a : Act} {w : World} {Q : Exit → Act → World → Prop} {zs : Array Value} (ty : TypeId) (x y : Operand) (cells : Array Value)
    (hg1 : Region.wanted o1 (yielded ops a.tmps) = true) (ho1 : o1.op = .alloc ty) (hz : (zeroValue ty).run P w = .ok (.agg zs) w) (hzs : (Value.agg zs).cells = zs)
    (hg2 : Region.wanted o2 (yielded ops (a.put o1.dst (.pointer (some ⟨w.heap.size, 0, none⟩))).tmps) = true) (ho2 : o2.op = .store ty x y)
    (hx : (a.put o1.dst (.pointer (some ⟨w.heap.size, 0, none⟩))).eval x = .pointer (some ⟨w.heap.size, 0, none⟩)) (hy : (a.put o1.dst (.pointer (some ⟨w.heap.size, 0, none⟩))).eval y = .agg cells)
    (hs : zs.size = cells.size) (hi : (P.info? ty).map (·.size) = some cells.size) (h1 : ∀ v ∈ cells.toList, v.oneCell' = true)
    (h : ∀ w' g, w.heap.size ≤ g → Blk w' g ty cells → Turn nowhere w w' → wpList P ops Q rest ((a.put o1.dst (.pointer (some ⟨g, 0, none⟩))).put o2.dst undef) w') : wpList P ops Q (o1 :: o2 :: rest) a w := by
  have hb := Blk.new w ty (Value.agg zs).cells
  have hu := (Turn.refl nowhere w).alloc (.cells (Value.agg zs).cells ty)
  refine wpList_run hg1 (gx_alloc ho1 hz) ?_
  refine wpList_store_row hg2 ty x y ho2 cells hb hx hy (by rw [hzs]; exact hs) hi h1 fun w' hb' hu' => ?_
  refine h w' _ (Nat.le_refl _) hb' (hu.trans hu' fun k hk e => ?_)
  have e : k = w.heap.size := e
  omega
theorem bx_slice0 {P : Program} {a : Act} {o : Oper} {t : TypeId} {q : Value} {W W' : World} (ho : o.op = .buildSlice t 0 #[])
    (h : (Instr.buildSlice t 0 #[]).run P W = .ok q W') : (execOp a.eval o).run P W = .ok (.value q) W' := by
  unfold execOp
  simp only [ho, List.map_toArray, List.map_nil, h, Sem.run_bind, Sem.run_pure, Result.andThen_ok]
end Go.Proofs.YtfnillibngijaaaGreatDoor
namespace Go.Proofs.YtfnillibngijaaaGreatDoor
open Go.RowKit Go.ChangeShapes Go.WideShapes Go.Deep
set_option linter.unusedVariables false
/-- n rows of k cells each, one behind the other -/
def Rws (w : World) (k : Nat) (A : Option Addr) (n : Nat) (rs : List (List Value)) : Prop :=
  rs.length = n ∧ (∀ r ∈ rs, r.length = k) ∧ n ≤ 140737488355328 ∧ (0 < n → ∃ b off, A = some ⟨b, off, none⟩ ∧ ∀ i r, rs[i]? = some r → ∀ j v, r[j]? = some v → w.cell? ⟨b, off + i * k + j, none⟩ = some v)
theorem rws_nil (w : World) (k : Nat) (A : Option Addr) : Rws w k A 0 [] := ⟨rfl, fun r h => (by cases h), Nat.zero_le _, fun h => absurd h (by decide)⟩
theorem Rws.turn {w w' : World} {k n : Nat} {A : Option Addr} {rs : List (List Value)} {F : Nat → Prop} (h : Rws w k A n rs) (ht : Turn F w w') (hn : ∀ b off s, A = some ⟨b, off, s⟩ → 0 < n → b < w.heap.size → ¬ F b) : Rws w' k A n rs := by
  obtain ⟨h1, h2, h3, h4⟩ := h
  refine ⟨h1, h2, h3, fun hp => ?_⟩
  obtain ⟨b, off, rfl, hc⟩ := h4 hp
  refine ⟨b, off, rfl, fun i r hr j v hv => ?_⟩
  have hcell := hc i r hr j v hv
  have hlt := World.block_lt_of_cell? _ _ hcell
  rw [ht.cell (p := ⟨b, off + i * k + j, none⟩) hlt (hn b off none rfl hp hlt)]
  exact hcell
theorem Rws.still {w w' : World} {k n : Nat} {A : Option Addr} {rs : List (List Value)} (h : Rws w k A n rs) (ht : Turn nowhere w w') : Rws w' k A n rs := h.turn ht fun _ _ _ _ _ _ e => e
theorem Rws.at_ {w : World} {k n : Nat} {A : Option Addr} {rs : List (List Value)} (h : Rws w k A n rs) {i : Nat} {r : List Value} (hr : rs[i]? = some r) : ∃ b off, A = some ⟨b, off, none⟩ ∧ ∀ j v, r[j]? = some v → w.cell? ⟨b, off + i * k + j, none⟩ = some v := by
  obtain ⟨h1, h2, h3, h4⟩ := h
  have hi := (List.getElem?_eq_some_iff.1 hr).1
  obtain ⟨b, off, rfl, hc⟩ := h4 (by omega)
  exact ⟨b, off, rfl, hc i r hr⟩
section
variable {H : Type} {enc : TypeId × Value → H} {P : Program} {w : World} {base : Nat} {spare : Nat → Bool} {held : Bool}
end
end Go.Proofs.YtfnillibngijaaaGreatDoor
namespace Go.Proofs.YtfnillibngijaaaGreatDoor
open Go.RowKit
theorem splice_at : ∀ (l : List Value) (k off : Nat) (cells : Array Value), ((l.zipIdx k).foldl (fun cs (x : Value × Nat) => cs.setIfInBounds (off + x.2) x.1) cells).size = cells.size ∧
    ∀ j, ((l.zipIdx k).foldl (fun cs (x : Value × Nat) => cs.setIfInBounds (off + x.2) x.1) cells)[j]? = if off + k ≤ j ∧ j < off + k + l.length ∧ j < cells.size then l[j - (off + k)]? else cells[j]?
  | [], k, off, cells => ⟨rfl, fun j => by
      rw [if_neg (by simp; omega)]
      rfl⟩
  | v :: r, k, off, cells => by
    simp only [List.zipIdx_cons, List.foldl_cons]
    obtain ⟨h1, h2⟩ := splice_at r (k + 1) off (cells.setIfInBounds (off + k) v)
    refine ⟨by rw [h1, Array.size_setIfInBounds], fun j => ?_⟩
    rw [h2, Array.size_setIfInBounds, List.length_cons]
    by_cases e : j = off + k
    · subst e
      rw [if_neg (by omega), Array.getElem?_setIfInBounds]
      by_cases hs : off + k < cells.size
      · rw [if_pos rfl, if_pos hs, if_pos ⟨by omega, by omega, hs⟩, Nat.sub_self]
        rfl
      · rw [if_pos rfl, if_neg hs, if_neg (by omega), Array.getElem?_eq_none (by omega)]
    · by_cases c : off + (k + 1) ≤ j ∧ j < off + (k + 1) + r.length ∧ j < cells.size
      · rw [if_pos c, if_pos ⟨by omega, by omega, c.2.2⟩, show j - (off + k) = (j - (off + (k + 1))) + 1 from by omega, List.getElem?_cons_succ]
      · rw [if_neg c, Array.getElem?_setIfInBounds, if_neg (fun h => e h.symm)]
        rw [if_neg (by omega)]
theorem splice_all (vs cells : Array Value) (h : vs.size = cells.size) : vs.zipIdx.foldl (fun cs (x : Value × Nat) => cs.setIfInBounds (0 + x.2) x.1) cells = vs := by
  have hz : vs.zipIdx = (vs.toList.zipIdx 0).toArray := by
    apply Array.ext'
    simp [Array.toList_zipIdx]
  rw [hz, List.foldl_toArray]
  obtain ⟨h1, h2⟩ := splice_at vs.toList 0 0 cells
  apply Array.ext_getElem?
  intro j
  rw [h2]
  by_cases hj : j < vs.size
  · rw [if_pos ⟨by omega, by simpa using hj, by omega⟩]
    simp
  · rw [if_neg (by simp; omega), Array.getElem?_eq_none (by omega), Array.getElem?_eq_none (by omega)]
theorem run_buildSlice_one {P : Program} {t e : TypeId} {i : TypeInfo} {z v : Value} (ht : P.underlying t = some (.slice e)) (hi : P.info? e = some i) (hz : i.zero = some z) (hs : v.cells.size = i.size) (hzs : z.cells.size = i.size)
    (h0 : 0 < i.size) (hsm : i.size ≤ 16777216) (w : World) :
    (Instr.buildSlice t 1 #[(0, v)]).run P w = .ok (.slice (some ⟨w.heap.size, 0, none⟩) 1 1) (w.alloc (.cells v.cells e)) := by
  have hfill : Instr.fill (fun j => some (j * i.size, i.size)) ((Array.range (1 * i.size)).map (z.cells[· % z.cells.size]!)) [(0, v)] = some v.cells := by
    unfold Instr.fill
    simp only [Nat.zero_mul, hs, Nat.one_mul, Array.size_map, Array.size_range, Nat.zero_add]
    rw [if_neg (by simp)]
    unfold Instr.fill
    congr 1
    have := splice_all v.cells (Array.map (fun x => z.cells[x % z.cells.size]!) (Array.range i.size)) (by simp [hs])
    simpa using this
  have g1 : ¬ (16777216 < i.size) := by omega
  have g2 : i.size ≠ 0 := by omega
  simp only [Nat.one_mul] at hfill
  simp [Instr.buildSlice, run_underlying ht, sizeOf, typeInfo, zeroValue, hi, hz, g1, g2, hfill, newRow]
end Go.Proofs.YtfnillibngijaaaGreatDoor
namespace Go.Proofs.YtfnillibngijaaaGreatDoor
open Go.RowKit Go.ChangeShapes Go.WideShapes Go.Deep
set_option linter.unusedVariables false
set_option linter.unusedSimpArgs false
/-- a slice type and its element: so many cells, so many bytes, its zero value -/
structure Elm (P : Program) (st et : TypeId) (k by_ : Nat) (z : Value) : Prop where
  und : P.underlying st = some (.slice et)
  inf : (P.info? et).map (fun i => (i.zero, i.size, i.bytes)) = some (some z, k, by_)
  zsz : z.cells.size = k
  pos : 0 < k
  byp : 1 ≤ by_
/-- n rows of k cells: all of k cells, each cell one cell -/
def Fit (k : Nat) (rs : List (List Value)) : Prop := ∀ r ∈ rs, r.length = k ∧ ∀ u ∈ r, u.oneCell' = true
theorem Fit.app {k : Nat} {a b : List (List Value)} (h : Fit k a) (g : Fit k b) : Fit k (a ++ b) := fun r hr => by
  rcases List.mem_append.1 hr with hr | hr
  · exact h r hr
  · exact g r hr
theorem Fit.nil (k : Nat) : Fit k [] := fun r h => (by cases h)
theorem Fit.sub {k : Nat} {a b : List (List Value)} (h : Fit k b) (g : ∀ r ∈ a, r ∈ b) : Fit k a := fun r hr => h r (g r hr)
theorem flat_len {k : Nat} : ∀ {rs : List (List Value)}, Fit k rs → rs.flatten.length = rs.length * k
  | [], _ => by simp
  | r :: rs, h => by
    rw [List.flatten_cons, List.length_append, flat_len (rs := rs) (fun x hx => h x (List.mem_cons_of_mem _ hx)), (h r (List.mem_cons_self ..)).1, List.length_cons, Nat.succ_mul]
    omega
theorem flat_at {k : Nat} : ∀ {rs : List (List Value)} {i j : Nat} {r : List Value}, Fit k rs → rs[i]? = some r → j < k → rs.flatten[i * k + j]? = r[j]?
  | [], i, j, r, _, h, _ => by cases h
  | q :: rs, 0, j, r, h, hr, hj => by
    obtain rfl : q = r := by simpa using hr
    rw [Nat.zero_mul, Nat.zero_add, List.flatten_cons, List.getElem?_append_left (by rw [(h q (List.mem_cons_self ..)).1]; exact hj)]
  | q :: rs, i + 1, j, r, h, hr, hj => by
    have hq := (h q (List.mem_cons_self ..)).1
    rw [List.flatten_cons, show (i + 1) * k + j = q.length + (i * k + j) from by rw [hq, Nat.succ_mul]; omega, List.getElem?_append_right (by omega), Nat.add_sub_cancel_left]
    exact flat_at (fun x hx => h x (List.mem_cons_of_mem _ hx)) (by simpa using hr) hj
theorem flat_one {k : Nat} {rs : List (List Value)} (h : Fit k rs) : ∀ u ∈ rs.flatten, u.oneCell' = true := fun u hu => by
  obtain ⟨r, hr, hu⟩ := List.mem_flatten.1 hu
  exact (h r hr).2 u hu
theorem flat_get {k : Nat} (hk : 0 < k) {rs : List (List Value)} (h : Fit k rs) {j : Nat} {u : Value} (hu : rs.flatten[j]? = some u) : ∃ r, rs[j / k]? = some r ∧ r[j % k]? = some u := by
  have hjl : j < rs.length * k := by
    have := (List.getElem?_eq_some_iff.1 hu).1
    rwa [flat_len h] at this
  have hd : j / k < rs.length := (Nat.div_lt_iff_lt_mul hk).2 hjl
  have hr : rs[j / k]? = some rs[j / k] := List.getElem?_eq_getElem hd
  refine ⟨_, hr, ?_⟩
  have := flat_at (j := j % k) h hr (Nat.mod_lt _ hk)
  rw [show j / k * k + j % k = j from by rw [Nat.mul_comm]; exact Nat.div_add_mod j k] at this
  rw [← this, hu]
/-- a row of the call's own, newer than B -/
def Orw (w : World) (B : Nat) (et : TypeId) (k : Nat) (v : Value) (rs : List (List Value)) : Prop := Fit k rs ∧ w.ownsRow B et k v rs.length rs.flatten
section
variable {w w' : World} {B k : Nat} {et : TypeId} {v : Value} {rs : List (List Value)} {F : Nat → Prop}
theorem Orw.turn (h : Orw w B et k v rs) (ht : Turn F w w') (hF : ∀ b, v.ownBlock = some b → ¬ F b) : Orw w' B et k v rs := by
  refine ⟨h.1, h.2.1, ?_⟩
  rcases h.2.2 with h0 | ⟨g, cap, cur, rfl, hb1, hgg, rest⟩
  · exact .inl h0
  · have hlt : g < w.heap.size := (Array.getElem?_eq_some_iff.1 hgg).1
    exact .inr ⟨g, cap, cur, rfl, hb1, by rw [ht.block g hlt (hF g rfl)]; exact hgg, rest⟩
theorem Orw.still (h : Orw w B et k v rs) (ht : Turn nowhere w w') : Orw w' B et k v rs := h.turn ht fun _ _ e => e
theorem Orw.less {C : Nat} (h : Orw w B et k v rs) (hC : C ≤ B) : Orw w C et k v rs := by
  refine ⟨h.1, h.2.1, ?_⟩
  rcases h.2.2 with h0 | ⟨g, cap, cur, rfl, hb1, rest⟩
  · exact .inl h0
  · exact .inr ⟨g, cap, cur, rfl, Nat.le_trans hC hb1, rest⟩
theorem Orw.form (h : Orw w B et k v rs) : ∃ A c, v = .slice A rs.length c ∧ rs.length ≤ c ∧ c ≤ maxLen ∧ (A = none → c = 0) ∧ (∀ a, A = some a → B ≤ a.block ∧ a.block < w.heap.size) := by
  rcases h.2.2 with ⟨rfl, h0⟩ | ⟨g, cap, cur, rfl, hb1, hg, h1, h2, _⟩
  · exact ⟨none, 0, (by rw [h0]), (by omega), (by unfold maxLen; omega), fun _ => rfl, fun a e => (by cases e)⟩
  · exact ⟨_, _, rfl, h1, h2, fun e => (by cases e), fun a e => (by obtain rfl := Option.some.inj e; exact ⟨hb1, (Array.getElem?_eq_some_iff.1 hg).1⟩)⟩
theorem Orw.lt (h : Orw w B et k v rs) {b : Nat} (hb : v.ownBlock = some b) : B ≤ b ∧ b < w.heap.size := by
  rcases h.2.2 with ⟨rfl, h0⟩ | ⟨g, cap, cur, rfl, hb1, hg, h1, h2, _⟩
  · cases hb
  · obtain rfl : g = b := Option.some.inj hb
    exact ⟨hb1, (Array.getElem?_eq_some_iff.1 hg).1⟩
/-- a block of another sort is not its own -/
theorem Orw.ne {g : Nat} {t : TypeId} {cs : Array Value} (h : Orw w B et k v rs) (hg : Blk w g t cs) (ht : t ≠ et) : ∀ b, v.ownBlock = some b → b ≠ g := by
  intro b hb e
  subst e
  rcases h.2.2 with ⟨rfl, _⟩ | ⟨g', cap, cur, rfl, _, hg', _⟩
  · cases hb
  · obtain rfl : g' = b := Option.some.inj hb
    exact (show Blk w g' et cur from hg').ne_ hg (fun h => ht h.symm) rfl
theorem Orw.rws {A : Option Addr} {n c : Nat} (h : Orw w B et k (.slice A n c) rs) (hn : rs.length ≤ 140737488355328) (hk : 0 < k) : Rws w k A n rs := by
  obtain ⟨A', c', e, _⟩ := h.form
  injection e with e1 e2 e3
  subst e1 e2 e3
  refine ⟨rfl, fun r hr => (h.1 r hr).1, hn, fun hp => ?_⟩
  rcases h.2.2 with ⟨e, h0⟩ | ⟨g, cap, cur, e, hb1, hg, h1, h2, h3, h4⟩
  · omega
  · injection e with e1 e2 e3
    subst e1
    refine ⟨g, 0, rfl, fun i r hr j u hu => ?_⟩
    have hj : j < k := by
      have := (List.getElem?_eq_some_iff.1 hu).1
      rwa [(h.1 r (List.mem_of_getElem? hr)).1] at this
    have hf := flat_at h.1 hr hj
    rw [hu] at hf
    have := World.ownsRow.cells (g := g) h.2 rfl (i * k + j) u hf
    rw [add_nat] at this
    rw [Nat.zero_add] at this ⊢
    exact this
end
section
variable {P : Program} {st et : TypeId} {k by_ : Nat} {z : Value}
/-- append of elements that lie anywhere -/
theorem orw_grow (E : Elm P st et k by_ z) {B : Nat} {w : World} {v : Value} {rs news : List (List Value)} {A : Option Addr} {m c : Nat} {ty : TypeId} (hown : Orw w B et k v rs) (hB : B ≤ w.heap.size) (hb : Rws w k A m news) (hf : Fit k news) (hc : A = none → c = 0) (hlen : (rs.length + m) * by_ ≤ 140737488355328) :
    ∃ A' c' w', (Builtin.append_ #[st, st] ty #[v, .slice A m c]).run P w = .ok (.slice A' (rs.length + m) c') w' ∧ Orw w' B et k (.slice A' (rs.length + m) c') (rs ++ news) ∧ w.grownBy w' v.ownBlock ∧ ((Value.slice A' (rs.length + m) c').ownBlock = v.ownBlock ∨ (Value.slice A' (rs.length + m) c').ownBlock = some w.heap.size) := by
  obtain ⟨h1, _, _, h3⟩ := hb
  obtain ⟨i0, hi0, hz0, hz1, hz2⟩ := info_parts E.inf
  rcases A with _ | A
  · obtain rfl := hc rfl
    have hm0 : m = 0 := by
      rcases Nat.eq_zero_or_pos m with h0 | h0
      · exact h0
      · obtain ⟨_, _, h4, _⟩ := h3 h0; cases h4
    subst hm0
    have hn : news = [] := List.eq_nil_of_length_eq_zero h1
    subst hn
    have hrun := run_append_owned_none (P := P) (w := w) B st ty et i0 k E.und hi0 v _ _ hown.2
    obtain ⟨A', c', rfl, _⟩ := hown.form
    exact ⟨A', c', w, hrun, by rw [List.append_nil]; exact hown, ⟨rfl, rfl, rfl, Nat.le_refl _, fun _ _ _ => rfl⟩, .inl rfl⟩
  · have hk := E.pos
    have hle : (rs.length + m) * 1 ≤ (rs.length + m) * by_ := Nat.mul_le_mul_left _ E.byp
    obtain ⟨v', w', g1, g2, g3, _, g5⟩ := run_append_own_at (P := P) w B st ty et i0 z k by_ E.und hi0 hz0 hz1 hz2 E.zsz E.pos v rs.length _ hown.2 A m c news.flatten (by rw [flat_len hf, h1]) (fun j u hj => by
        obtain ⟨r, hr, hu⟩ := flat_get E.pos hf hj
        have hm : 0 < m := by
          have := (List.getElem?_eq_some_iff.1 hr).1
          rw [h1] at this
          exact Nat.lt_of_le_of_lt (Nat.zero_le _) this
        obtain ⟨b, off, e, hcell⟩ := h3 hm
        obtain rfl := Option.some.inj e
        have := hcell _ r hr _ u hu
        rw [add_nat]
        rwa [Nat.add_assoc, show j / k * k + j % k = j from by rw [Nat.mul_comm]; exact Nat.div_add_mod j k] at this) (flat_one hf) (by unfold maxLen; omega) hlen hB
    have hO : Orw w' B et k v' (rs ++ news) := ⟨hown.1.app hf, by
      rw [List.length_append, h1, List.flatten_append]
      exact g2⟩
    obtain ⟨A', c', rfl, _⟩ := hO.form
    rw [List.length_append, h1] at g1 hO g5
    exact ⟨A', c', w', g1, hO, g3, g5⟩
theorem orw_more (E : Elm P st et k by_ z) {F : Nat → Prop} {W1 w : World} {v : Value} {rs news : List (List Value)} {A : Option Addr} {m c : Nat} {ty : TypeId} (hown : Orw w W1.heap.size et k v rs) (hT : Turn F W1 w) (hb : Rws w k A m news) (hf : Fit k news) (hc : A = none → c = 0) (hlen : (rs.length + m) * by_ ≤ 140737488355328) :
    ∃ A' c' w', (Builtin.append_ #[st, st] ty #[v, .slice A m c]).run P w = .ok (.slice A' (rs.length + m) c') w' ∧ Orw w' W1.heap.size et k (.slice A' (rs.length + m) c') (rs ++ news) ∧ Turn F W1 w' := by
  obtain ⟨A', c', w', h1, h2, h3, _⟩ := orw_grow E (ty := ty) hown hT.size hb hf hc hlen
  exact ⟨A', c', w', h1, h2, hT.grown h3 fun g e hg => by
    have := (hown.lt e).1
    omega⟩
end
end Go.Proofs.YtfnillibngijaaaGreatDoor
namespace Go.Proofs.YtfnillibngijaaaGreatDoor
open Go.RowKit
set_option linter.unusedVariables false
set_option linter.unusedSimpArgs false
section
variable {α : Type}
theorem sg_len (l cs : List α) (o : Nat) (h : o + cs.length ≤ l.length) : (l.take o ++ cs ++ l.drop (o + cs.length)).length = l.length := by
  rw [List.length_append, List.length_append, List.length_take, List.length_drop]
  omega
end
section
variable {P : Program} {st et : TypeId} {k by_ : Nat} {z : Value}
theorem Elm.size (E : Elm P st et k by_ z) : ∃ i, P.info? et = some i ∧ i.size = k := by
  obtain ⟨i0, hi0, _, hz1, _⟩ := info_parts E.inf
  exact ⟨i0, hi0, hz1⟩
/-- s[:e] -/
theorem sl_to (E : Elm P st et k by_ z) (A : Option Addr) (n c e : Nat) (hc : e ≤ c) (W : World) : (Instr.sliceAt st (.slice A n c) none (some (.int .i64 (e : Int))) none).run P W = .ok (.slice A e c) W := by
  obtain ⟨i, hi1, hi2⟩ := E.size
  have b1 : (0 : Int) ≤ (e : Int) ∧ (e : Int) ≤ (c : Int) := ⟨by omega, by omega⟩
  simp [Instr.sliceAt, Instr.slice, Instr.sliceBounds, Instr.sliceBound, asIntOf, run_underlying E.und, sizeOf, typeInfo, hi1, b1]
  rw [if_pos (show e ≤ c by omega)]
  cases A <;> simp [Addr.add]
def fromK (k : Nat) (A : Option Addr) (c d : Nat) : Option Addr := if c = d then A else A.map (·.add (d * k))
/-- s[d:] -/
theorem sl_from (E : Elm P st et k by_ z) (A : Option Addr) (n c d : Nat) (h0 : d ≤ n) (hc : n ≤ c) (W : World) : (Instr.sliceAt st (.slice A n c) (some (.int .i64 (d : Int))) none none).run P W = .ok (.slice (fromK k A c d) (n - d) (c - d)) W := by
  obtain ⟨i, hi1, hi2⟩ := E.size
  have b1 : (0 : Int) ≤ (d : Int) ∧ (d : Int) ≤ (n : Int) := ⟨by omega, by omega⟩
  simp [Instr.sliceAt, Instr.slice, Instr.sliceBounds, Instr.sliceBound, asIntOf, run_underlying E.und, sizeOf, typeInfo, hi1, hi2, b1, fromK]
  intro h
  omega
theorem fromK_at {g o c d : Nat} (h : d < c) : fromK k (some ⟨g, o, none⟩) c d = some ⟨g, o + d * k, none⟩ := by
  unfold fromK
  rw [if_neg (by omega)]
  show some ((⟨g, o, none⟩ : Addr).add (d * k)) = _
  rw [add_nat]
end
end Go.Proofs.YtfnillibngijaaaGreatDoor
namespace Go.Proofs.YtfnillibngijaaaGreatDoor
open Go.RowKit
set_option linter.unusedVariables false
set_option linter.unusedSimpArgs false
theorem flat_take {k : Nat} : ∀ {rs : List (List Value)} (i : Nat), Fit k rs → i ≤ rs.length → rs.flatten.take (i * k) = (rs.take i).flatten
  | rs, 0, _, _ => by simp
  | [], i + 1, _, h => by simp at h
  | r :: rs, i + 1, hf, h => by
    have hr := (hf r (List.mem_cons_self ..)).1
    rw [List.flatten_cons, Nat.succ_mul, List.take_succ_cons, List.flatten_cons, show i * k + k = r.length + i * k from by rw [hr, Nat.add_comm], List.take_length_add_append, flat_take i (fun x hx => hf x (List.mem_cons_of_mem _ hx)) (by simpa using h)]
theorem setRow_turn' (w : World) (g : Nat) (cs : Array Value) : Turn (only g) w (w.setRow g cs) := ⟨rfl, rfl, rfl, by simp, fun k _ hk => setRow_other w g k cs hk⟩
theorem orw_block {w : World} {B k b n c : Nat} {et : TypeId} {rs : List (List Value)} (h : Orw w B et k (.slice (some ⟨b, 0, none⟩) n c) rs) : ∃ cur, Blk w b et cur ∧ cur.size = c * k ∧ cur.toList.take (n * k) = rs.flatten ∧ rs.length = n ∧ n ≤ c ∧ c ≤ maxLen ∧ B ≤ b := by
  rcases h.2.2 with ⟨e, _⟩ | ⟨g', cap, cur, e, hb, hg', h1, h2, h3, h4⟩
  · cases e
  · injection e with e1 e2 e3
    injection e1 with e1
    injection e1 with e1 _ _
    subst e1 e2 e3
    exact ⟨cur, hg', h3, h4, rfl, h1, h2, hb⟩
/-- a row made anew out of a block that is known whole -/
theorem orw_of {w : World} {B k b n c : Nat} {et : TypeId} {rs : List (List Value)} {cur : Array Value} (hb : Blk w b et cur) (hB : B ≤ b) (hf : Fit k rs) (hn : rs.length = n) (hnc : n ≤ c) (hc : c ≤ maxLen) (hs : cur.size = c * k) (ht : cur.toList.take (n * k) = rs.flatten) : Orw w B et k (.slice (some ⟨b, 0, none⟩) n c) rs := by
  subst hn
  exact ⟨hf, by rw [flat_len hf], .inr ⟨b, c, cur, rfl, hB, hb, hnc, hc, hs, ht⟩⟩
section
variable {α : Type}
end
section
variable {P : Program} {st et : TypeId} {k by_ : Nat} {z : Value}
end
end Go.Proofs.YtfnillibngijaaaGreatDoor
