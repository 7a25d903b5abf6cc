/-
  Texts in one file. Conditions: the tables and the errors read as laid.
-/
import Derived.Test.YtkagijifkpoplaaGreatDoorJT0
import Derived.Laws.BitsAllLaws
import Derived.Test.YtkagijifkpoplaaGreatDoorJT1
import Derived.Laws.ResultCell
set_option linter.unusedVariables false
set_option linter.unusedSimpArgs false
set_option maxRecDepth 40000
set_option maxHeartbeats 20000000
namespace Go.Proofs.YtkagijifkpoplaaGreatDoor.Sh
abbrev B8 := List UInt8
abbrev Wd := BitVec 32
def rot (x : Wd) (n : Nat) : Wd := x >>> n ||| x <<< (32 - n)
def S0 (x : Wd) : Wd := rot x 2 ^^^ rot x 13 ^^^ rot x 22
def S1 (x : Wd) : Wd := rot x 6 ^^^ rot x 11 ^^^ rot x 25
def s0 (x : Wd) : Wd := rot x 7 ^^^ rot x 18 ^^^ x >>> 3
def s1 (x : Wd) : Wd := rot x 17 ^^^ rot x 19 ^^^ x >>> 10
def ch (e f g : Wd) : Wd := (e &&& f) ^^^ (~~~ e &&& g)
def maj (a b c : Wd) : Wd := (a &&& b) ^^^ (a &&& c) ^^^ (b &&& c)
def K : List Nat := [0x428a2f98, 0x71374491, 0xb5c0fbcf, 0xe9b5dba5, 0x3956c25b, 0x59f111f1, 0x923f82a4, 0xab1c5ed5,
 0xd807aa98, 0x12835b01, 0x243185be, 0x550c7dc3, 0x72be5d74, 0x80deb1fe, 0x9bdc06a7, 0xc19bf174,
 0xe49b69c1, 0xefbe4786, 0x0fc19dc6, 0x240ca1cc, 0x2de92c6f, 0x4a7484aa, 0x5cb0a9dc, 0x76f988da,
 0x983e5152, 0xa831c66d, 0xb00327c8, 0xbf597fc7, 0xc6e00bf3, 0xd5a79147, 0x06ca6351, 0x14292967,
 0x27b70a85, 0x2e1b2138, 0x4d2c6dfc, 0x53380d13, 0x650a7354, 0x766a0abb, 0x81c2c92e, 0x92722c85,
 0xa2bfe8a1, 0xa81a664b, 0xc24b8b70, 0xc76c51a3, 0xd192e819, 0xd6990624, 0xf40e3585, 0x106aa070,
 0x19a4c116, 0x1e376c08, 0x2748774c, 0x34b0bcb5, 0x391c0cb3, 0x4ed8aa4a, 0x5b9cca4f, 0x682e6ff3,
 0x748f82ee, 0x78a5636f, 0x84c87814, 0x8cc70208, 0x90befffa, 0xa4506ceb, 0xbef9a3f7, 0xc67178f2]
def kt (t : Nat) : Wd := BitVec.ofNat 32 (K.getD t 0)
@[ext] structure H8 where
 a : Wd
 b : Wd
 c : Wd
 d : Wd
 e : Wd
 f : Wd
 g : Wd
 h : Wd
 deriving DecidableEq
def H8.l (s : H8) : List Wd := [s.a, s.b, s.c, s.d, s.e, s.f, s.g, s.h]
def H0 : H8 := ⟨0x6a09e667, 0xbb67ae85, 0x3c6ef372, 0xa54ff53a, 0x510e527f, 0x9b05688c, 0x1f83d9ab, 0x5be0cd19⟩
def wide (x : UInt8) : Wd := BitVec.ofNat 32 x.toNat
def wordAt (p : B8) (i : Nat) : Wd := wide (p.getD i 0) <<< 24 ||| wide (p.getD (i + 1) 0) <<< 16 ||| wide (p.getD (i + 2) 0) <<< 8 ||| wide (p.getD (i + 3) 0)
def nxt (p : B8) (l : List Wd) (t : Nat) : Wd := if t < 16 then wordAt p (4 * t) else s1 (l.getD (t - 2) 0) + l.getD (t - 7) 0 + s0 (l.getD (t - 15) 0) + l.getD (t - 16) 0
def wl (p : B8) : Nat → List Wd
 | 0 => []
 | n + 1 => wl p n ++ [nxt p (wl p n) n]
theorem wl_len (p : B8) : ∀ n, (wl p n).length = n
 | 0 => rfl
 | n + 1 => by rw [wl, List.length_append, wl_len p n]; rfl
theorem wl_get (p : B8) {t : Nat} : ∀ {n m}, t < n → n ≤ m → (wl p m).getD t 0 = (wl p n).getD t 0
 | n, 0, h, hm => by omega
 | n, m + 1, h, hm => by
   by_cases he : n = m + 1
   ·rw [he]
   ·rw [wl, List.getD_eq_getElem?_getD, List.getElem?_append_left (by rw [wl_len]; omega), ← List.getD_eq_getElem?_getD]
    exact wl_get p h (by omega)
def t1 (s : H8) (k w : Wd) : Wd := s.h + S1 s.e + ch s.e s.f s.g + k + w
def t2 (s : H8) : Wd := S0 s.a + maj s.a s.b s.c
def rnd (s : H8) (k w : Wd) : H8 := ⟨t1 s k w + t2 s, s.a, s.b, s.c, s.d + t1 s k w, s.e, s.f, s.g⟩
def rs (s : H8) (l : List Wd) : Nat → H8
 | 0 => s
 | t + 1 => rnd (rs s l t) (kt t) (l.getD t 0)
def add8 (s t : H8) : H8 := ⟨s.a + t.a, s.b + t.b, s.c + t.c, s.d + t.d, s.e + t.e, s.f + t.f, s.g + t.g, s.h + t.h⟩
def comp (s : H8) (p : B8) : H8 := add8 s (rs s (wl p 64) 64)
def blk : Nat → H8 → B8 → H8
 | 0, h, _ => h
 | n + 1, h, l => blk n (comp h (l.take 64)) (l.drop 64)
theorem blk_add (h : H8) (l : B8) : ∀ n m, blk (n + m) h l = blk m (blk n h l) (l.drop (64 * n))
 | 0, m => by rw [Nat.zero_add, Nat.mul_zero, List.drop_zero]; rfl
 | n + 1, m => by
   rw [Nat.succ_add, blk, blk, blk_add (comp h (l.take 64)) (l.drop 64) n m, List.drop_drop]
   congr 2
   omega
theorem blk_succ (h : H8) (l : B8) (n : Nat) : blk (n + 1) h l = comp (blk n h l) ((l.drop (64 * n)).take 64) := by
 rw [blk_add]; rfl
theorem blk_app (h : H8) (r : B8) : ∀ (n : Nat) (l : B8), 64 * n ≤ l.length → blk n h (l ++ r) = blk n h l
 | 0, l, hl => rfl
 | n + 1, l, hl => by
   rw [blk, blk, List.take_append_of_le_length (by omega), List.drop_append_of_le_length (by omega)]
   exact blk_app _ r n _ (by rw [List.length_drop]; omega)
theorem blk_cons (h : H8) (p r : B8) (n : Nat) (hp : p.length = 64) : blk (n + 1) h (p ++ r) = blk n (comp h p) r := by
 rw [blk, List.take_left' hp, List.drop_left' hp]
def low (x : Wd) : UInt8 := UInt8.ofNat x.toNat
def outw (x : Wd) : B8 := [low (x >>> 24), low (x >>> 16), low (x >>> 8), low x]
def out (s : H8) : B8 := outw s.a ++ outw s.b ++ outw s.c ++ outw s.d ++ outw s.e ++ outw s.f ++ outw s.g ++ outw s.h
def zs (n : Nat) : B8 := List.replicate n 0
theorem zs_len (n : Nat) : (zs n).length = n := List.length_replicate
def be8 (n : Nat) : B8 := (List.range 8).map fun i => UInt8.ofNat (n / 2 ^ (56 - 8 * i))
theorem be8_len (n : Nat) : (be8 n).length = 8 := rfl
def bits (n : Nat) : Nat := 8 * n % 18446744073709551616
def pad (l : B8) : B8 := l ++ [0x80] ++ zs ((119 - l.length % 64) % 64) ++ be8 (bits l.length)
theorem pad_len (l : B8) : 64 * ((pad l).length / 64) = (pad l).length := by
 simp only [pad, List.length_append, List.length_singleton, zs_len, be8_len]
 omega
def sum (l : B8) : B8 := out (blk ((pad l).length / 64) H0 (pad l))
theorem sum_len (l : B8) : (sum l).length = 32 := rfl
def fin (h : H8) (n : Nat) (r : B8) : H8 :=
 if r.length < 56 then comp h (r ++ [0x80] ++ zs (55 - r.length) ++ be8 (bits n))
 else comp (comp h (r ++ [0x80] ++ zs (63 - r.length))) (zs 56 ++ be8 (bits n))
theorem sum_fin (l : B8) (n : Nat) (hn : 64 * n ≤ l.length) (hm : l.length < 64 * n + 64) : sum l = out (fin (blk n H0 l) l.length (l.drop (64 * n))) := by
 have hr : (l.drop (64 * n)).length = l.length - 64 * n := List.length_drop
 unfold sum
 congr 1
 unfold fin
 by_cases h : (l.drop (64 * n)).length < 56
 ·rw [if_pos h]
  have hl : (pad l).length / 64 = n + 1 := by
   simp only [pad, List.length_append, List.length_singleton, zs_len, be8_len]
   omega
  rw [hl, blk_succ]
  have e1 : pad l = l ++ ([0x80] ++ zs ((119 - l.length % 64) % 64) ++ be8 (bits l.length)) := by unfold pad; simp only [List.append_assoc]
  rw [e1, blk_app _ _ _ _ hn, List.drop_append_of_le_length hn]
  congr 1
  have e2 : (119 - l.length % 64) % 64 = 55 - (l.drop (64 * n)).length := by omega
  rw [e2, List.take_of_length_le (by simp only [List.length_append, List.length_singleton, zs_len, be8_len]; omega)]
  simp only [List.append_assoc]
 ·rw [if_neg h]
  have hl : (pad l).length / 64 = n + 1 + 1 := by
   simp only [pad, List.length_append, List.length_singleton, zs_len, be8_len]
   omega
  have e2 : zs ((119 - l.length % 64) % 64) = zs (63 - (l.drop (64 * n)).length) ++ zs 56 := by
   unfold zs
   rw [List.replicate_append_replicate]
   congr 1
   omega
  have e1 : pad l = l ++ (([0x80] ++ zs (63 - (l.drop (64 * n)).length)) ++ (zs 56 ++ be8 (bits l.length))) := by unfold pad; rw [e2]; simp only [List.append_assoc]
  have e3 : (pad l).drop (64 * n) = ((l.drop (64 * n)) ++ [0x80] ++ zs (63 - (l.drop (64 * n)).length)) ++ (zs 56 ++ be8 (bits l.length)) := by
   rw [e1, List.drop_append_of_le_length hn]; simp only [List.append_assoc]
  have e4 : ((l.drop (64 * n)) ++ [0x80] ++ zs (63 - (l.drop (64 * n)).length)).length = 64 := by
   simp only [List.length_append, List.length_singleton, zs_len]; omega
  rw [hl, Nat.add_assoc, blk_add, e3, blk_cons _ _ _ _ e4, blk]
  have e5 : blk n H0 (pad l) = blk n H0 l := by rw [e1, blk_app _ _ _ _ hn]
  rw [e5, List.take_of_length_le (by simp only [List.length_append, zs_len, be8_len]; omega)]
  rfl
def fit (k : B8) : B8 := (if 64 < k.length then sum k else k)
def full (k : B8) : B8 := fit k ++ zs (64 - (fit k).length)
theorem fit_le (k : B8) : (fit k).length ≤ 64 := by
 unfold fit
 split
 ·rw [sum_len]; omega
 ·omega
theorem full_len (k : B8) : (full k).length = 64 := by
 have := fit_le k
 unfold full
 rw [List.length_append, zs_len]
 omega
def mask (k : B8) (x : UInt8) : B8 := k.map fun c => c ^^^ x
theorem mask_len (k : B8) (x : UInt8) : (mask k x).length = k.length := List.length_map _
def mac (key b : B8) : B8 := sum (mask (full key) 0x5c ++ sum (mask (full key) 0x36 ++ b))
theorem mac_len (key b : B8) : (mac key b).length = 32 := rfl
def finish (h : H8) (done : Nat) (b : B8) : B8 := out (fin (blk (b.length / 64) h b) (done + b.length) (b.drop (64 * (b.length / 64))))
theorem sum_finish (b : B8) : finish H0 0 b = sum b := by
 unfold finish
 rw [sum_fin b (b.length / 64) (by omega) (by omega), Nat.zero_add]
theorem sum_finish1 (p b : B8) (hp : p.length = 64) : finish (comp H0 p) 64 b = sum (p ++ b) := by
 unfold finish
 rw [sum_fin (p ++ b) (b.length / 64 + 1) (by rw [List.length_append]; omega) (by rw [List.length_append]; omega), blk_cons _ _ _ _ hp]
 rw [List.length_append, hp]
 have e : (p ++ b).drop (64 * (b.length / 64 + 1)) = b.drop (64 * (b.length / 64)) := by
  rw [List.drop_append, hp, List.drop_eq_nil_of_le (by omega), List.nil_append]
  congr 1
 rw [e]
theorem mac_finish (key b : B8) : mac key b = finish (comp H0 (mask (full key) 0x5c)) 64 (finish (comp H0 (mask (full key) 0x36)) 64 b) := by
 rw [sum_finish1 _ _ (by rw [mask_len, full_len]), sum_finish1 _ _ (by rw [mask_len, full_len])]
 rfl
def dig (n : Nat) : UInt8 := UInt8.ofNat (if n < 10 then 48 + n else 87 + n)
def hex (l : B8) : B8 := l.flatMap fun c => [dig (c.toNat / 16), dig (c.toNat % 16)]
def macT (key b : B8) : B8 := hex ((mac key b).take 8)
end Go.Proofs.YtkagijifkpoplaaGreatDoor.Sh
namespace Go.Proofs.YtkagijifkpoplaaGreatDoor
open Go.RowKit
section
variable {a : Act} {o : Oper} {W : World} {x y : Operand} {t u : TypeId}
theorem wd_lt (n : Sh.Wd) : n.toNat < 4294967296 := n.isLt
theorem wd_add {n m : Sh.Wd} (ho : o.op = .binOp .add t x y u) (hx : a.eval x = .int .u32 (n.toNat : Int)) (hy : a.eval y = .int .u32 (m.toNat : Int)) : (execOp a.eval o).run Tryz.prog W = .ok (.value (.int .u32 ((n + m).toNat : Int))) W := by
 obtain ⟨r, hr⟩ : ∃ r : Nat, (n + m).toNat = r := ⟨_, rfl⟩
 rw [hr]
 unfold execOp
 simp only [ho, hx, hy]
 go_simp
 rw [IntKind.wrap_u32', ← hr, BitVec.toNat_add]
 omega
theorem wd_and {n m : Sh.Wd} (ho : o.op = .binOp .and t x y u) (hx : a.eval x = .int .u32 (n.toNat : Int)) (hy : a.eval y = .int .u32 (m.toNat : Int)) : (execOp a.eval o).run Tryz.prog W = .ok (.value (.int .u32 ((n &&& m).toNat : Int))) W := by
 obtain ⟨r, hr⟩ : ∃ r : Nat, (n &&& m).toNat = r := ⟨_, rfl⟩
 rw [hr]
 unfold execOp
 simp only [ho, hx, hy]
 go_simp
 rw [u32_and_nat _ _ (wd_lt n) (wd_lt m), ← hr, BitVec.toNat_and]
theorem wd_or {n m : Sh.Wd} (ho : o.op = .binOp .or t x y u) (hx : a.eval x = .int .u32 (n.toNat : Int)) (hy : a.eval y = .int .u32 (m.toNat : Int)) : (execOp a.eval o).run Tryz.prog W = .ok (.value (.int .u32 ((n ||| m).toNat : Int))) W := by
 obtain ⟨r, hr⟩ : ∃ r : Nat, (n ||| m).toNat = r := ⟨_, rfl⟩
 rw [hr]
 unfold execOp
 simp only [ho, hx, hy]
 go_simp
 rw [u32_or_nat _ _ (wd_lt n) (wd_lt m), ← hr, BitVec.toNat_or]
theorem wd_xor {n m : Sh.Wd} (ho : o.op = .binOp .xor t x y u) (hx : a.eval x = .int .u32 (n.toNat : Int)) (hy : a.eval y = .int .u32 (m.toNat : Int)) : (execOp a.eval o).run Tryz.prog W = .ok (.value (.int .u32 ((n ^^^ m).toNat : Int))) W := by
 obtain ⟨r, hr⟩ : ∃ r : Nat, (n ^^^ m).toNat = r := ⟨_, rfl⟩
 rw [hr]
 unfold execOp
 simp only [ho, hx, hy]
 go_simp
 rw [u32_xor_nat _ _ (wd_lt n) (wd_lt m), ← hr, BitVec.toNat_xor]
theorem wd_not {n : Sh.Wd} (ho : o.op = .unOp .xor 93 x) (hx : a.eval x = .int .u32 (n.toNat : Int)) : (execOp a.eval o).run Tryz.prog W = .ok (.value (.int .u32 ((~~~ n).toNat : Int))) W := by
 obtain ⟨r, hr⟩ : ∃ r : Nat, (~~~ n).toNat = r := ⟨_, rfl⟩
 rw [hr]
 unfold execOp
 simp only [ho, hx]
 go_simp
 rw [show (if IntKind.u32.signed = true then (-1 : Int) else IntKind.u32.max) = ((4294967295 : Nat) : Int) from rfl, u32_xor_nat 4294967295 _ (by omega) (wd_lt n), ← hr]
 congr 1
theorem shr_nat (n : Sh.Wd) (s : Nat) : (n >>> s).toNat = n.toNat / 2 ^ s := by rw [BitVec.toNat_ushiftRight, Nat.shiftRight_eq_div_pow]
theorem shl_nat (n : Sh.Wd) (s : Nat) : (n <<< s).toNat = n.toNat * 2 ^ s % 4294967296 := by rw [BitVec.toNat_shiftLeft, Nat.shiftLeft_eq]
theorem wd_shrc {n : Sh.Wd} {s : Nat} (ho : o.op = .binOp .shr 93 x y u) (hx : a.eval x = .int .u32 (n.toNat : Int)) (hy : a.eval y = .int .u64 (s : Int)) (hs : s < 32) : (execOp a.eval o).run Tryz.prog W = .ok (.value (.int .u32 ((n >>> s).toNat : Int))) W := by
 obtain ⟨r, hr⟩ : ∃ r : Nat, (n >>> s).toNat = r := ⟨_, rfl⟩
 rw [hr]
 unfold execOp
 simp only [ho, hx, hy]
 go_simp
 rw [← hr, shr_nat]
 push_cast
 rfl
theorem wd_shri {n : Sh.Wd} {s : Nat} (ho : o.op = .binOp .shr 93 x y u) (hx : a.eval x = .int .u32 (n.toNat : Int)) (hy : a.eval y = .int .i64 (s : Int)) (hs : s < 32) : (execOp a.eval o).run Tryz.prog W = .ok (.value (.int .u32 ((n >>> s).toNat : Int))) W := by
 obtain ⟨r, hr⟩ : ∃ r : Nat, (n >>> s).toNat = r := ⟨_, rfl⟩
 rw [hr]
 unfold execOp
 simp only [ho, hx, hy]
 go_simp
 rw [← hr, shr_nat]
 push_cast
 rfl
theorem wd_shlc {n : Sh.Wd} {s : Nat} (ho : o.op = .binOp .shl 93 x y u) (hx : a.eval x = .int .u32 (n.toNat : Int)) (hy : a.eval y = .int .u64 (s : Int)) (hs : s < 32) : (execOp a.eval o).run Tryz.prog W = .ok (.value (.int .u32 ((n <<< s).toNat : Int))) W := by
 obtain ⟨r, hr⟩ : ∃ r : Nat, (n <<< s).toNat = r := ⟨_, rfl⟩
 rw [hr]
 unfold execOp
 simp only [ho, hx, hy]
 go_simp
 rw [IntKind.wrap_u32', ← hr, shl_nat, Int.natCast_emod, Int.natCast_mul, Int.natCast_pow]
 rfl
theorem wd_shli {n : Sh.Wd} {s : Nat} (ho : o.op = .binOp .shl 93 x y u) (hx : a.eval x = .int .u32 (n.toNat : Int)) (hy : a.eval y = .int .i64 (s : Int)) (hs : s < 32) : (execOp a.eval o).run Tryz.prog W = .ok (.value (.int .u32 ((n <<< s).toNat : Int))) W := by
 obtain ⟨r, hr⟩ : ∃ r : Nat, (n <<< s).toNat = r := ⟨_, rfl⟩
 rw [hr]
 unfold execOp
 simp only [ho, hx, hy]
 go_simp
 rw [IntKind.wrap_u32', ← hr, shl_nat, Int.natCast_emod, Int.natCast_mul, Int.natCast_pow]
 rfl
theorem wd_wide {n : UInt8} (ho : o.op = .convert 5 93 x) (hx : a.eval x = .int .u8 (n.toNat : Int)) : (execOp a.eval o).run Tryz.prog W = .ok (.value (.int .u32 ((Sh.wide n).toNat : Int))) W := by
 have hn : n.toNat < 256 := n.toNat_lt
 obtain ⟨r, hr⟩ : ∃ r : Nat, (Sh.wide n).toNat = r := ⟨_, rfl⟩
 rw [hr]
 unfold execOp
 simp only [ho, hx]
 go_simp
 rw [← hr]
 unfold Sh.wide
 rw [BitVec.toNat_ofNat, IntKind.wrap_u32']
 omega
theorem wd_low {n : Sh.Wd} (ho : o.op = .convert 93 5 x) (hx : a.eval x = .int .u32 (n.toNat : Int)) : (execOp a.eval o).run Tryz.prog W = .ok (.value (.int .u8 ((Sh.low n).toNat : Int))) W := by
 obtain ⟨r, hr⟩ : ∃ r : Nat, (Sh.low n).toNat = r := ⟨_, rfl⟩
 rw [hr]
 unfold execOp
 simp only [ho, hx]
 go_simp
 rw [← hr]
 unfold Sh.low
 rw [UInt8.toNat_ofNat', IntKind.wrap_u8']
 omega
theorem wd_cvn {n : Nat} (ho : o.op = .convert 3 99 x) (hx : a.eval x = .int .i64 (-(n : Int))) (h1 : 1 ≤ n) (hn : n < 32) : (execOp a.eval o).run Tryz.prog W = .ok (.value (.int .u64 ((18446744073709551616 - n : Nat) : Int))) W := by
 unfold execOp
 simp only [ho, hx]
 go_simp
 rw [IntKind.wrap_u64]
 omega
theorem wd_and31 {n : Nat} (ho : o.op = .binOp .and 99 x (.const (.int .u64 31)) 99) (hx : a.eval x = .int .u64 ((18446744073709551616 - n : Nat) : Int)) (h1 : 1 ≤ n) (hn : n < 32) : (execOp a.eval o).run Tryz.prog W = .ok (.value (.int .u64 ((32 - n : Nat) : Int))) W := by
 unfold execOp
 simp only [ho, hx]
 go_simp
 have h := u64_and_nat (18446744073709551616 - n) 31 (by omega) (by omega)
 rw [nat_mask5] at h
 rw [show (31 : Int) = ((31 : Nat) : Int) from rfl, h]
 omega
theorem wd_sub32 {n : Nat} (ho : o.op = .binOp .sub 99 (.const (.int .u64 32)) y 99) (hy : a.eval y = .int .u64 ((32 - n : Nat) : Int)) (hn : n < 32) : (execOp a.eval o).run Tryz.prog W = .ok (.value (.int .u64 (n : Int))) W := by
 unfold execOp
 simp only [ho, hy]
 go_simp
 rw [IntKind.wrap_u64]
 omega
end
theorem ret_cell2_g {P : Program} {fn : Func} {p u : Tmp} {ty : TypeId} (h : fn.results = #[.cell p ty, .tmp u]) (tmps : Array Value) (w : World) (g : Nat) (t : TypeId) (cs : Array Value) (d : TypeDesc) {v : Value}
 (hp : tmps.getD p undef = .pointer (some ⟨g, 0, none⟩)) (hv : tmps.getD u undef = v) (hg : Blk w g t cs) (hu : P.underlying ty = some d) (hd : (match d with | .struct _ | .array _ _ => true | _ => false) = true) (hi : (P.info? ty).map (·.size) = some cs.size) :
 (results fn tmps).run P w = .ok (.tuple #[.agg cs, v]) w := by
 subst hv
 have hp' : tmps[p]?.getD undef = .pointer (some ⟨g, 0, none⟩) := by simpa using hp
 rw [results_cell_tmp h]
 simp [hp', asAddr, run_loadVar_row w g t ty cs (0, 0) d hg hu hd hi, Result.andThen]
theorem ret_cell1_g {P : Program} {fn : Func} {p : Tmp} {ty : TypeId} (h : fn.results = #[.cell p ty]) (tmps : Array Value) (w : World) (g : Nat) (t : TypeId) (cs : Array Value) (d : TypeDesc)
 (hp : tmps.getD p undef = .pointer (some ⟨g, 0, none⟩)) (hg : Blk w g t cs) (hu : P.underlying ty = some d) (hd : (match d with | .struct _ | .array _ _ => true | _ => false) = true) (hi : (P.info? ty).map (·.size) = some cs.size) :
 (results fn tmps).run P w = .ok (.agg cs) w := by
 have hp' : tmps[p]?.getD undef = .pointer (some ⟨g, 0, none⟩) := by simpa using hp
 simp only [results, h]
 simp [Sem.run_bind, Result.andThen, hp', asAddr, run_loadVar_row w g t ty cs (0, 0) d hg hu hd hi]
theorem gx_aaddr_g {P : Program} {a : Act} {o : Oper} {W : World} {t e : TypeId} {x y : Operand} {b off n i sz m : Nat} {k : IntKind} (ho : o.op = .indexAddr t x y) (hx : a.eval x = .pointer (some ⟨b, off, none⟩)) (hy : a.eval y = .int k (i : Int))
 (ht : P.underlying t = some (.array n e)) (hs : (P.info? e).map (·.size) = some sz) (hi : i < n) (hm : off + i * sz = m) : (execOp a.eval o).run P W = .ok (.value (.pointer (some ⟨b, m, none⟩))) W := by
 obtain ⟨j, hj, hjs⟩ := Option.map_eq_some_iff.1 hs
 subst hm
 unfold execOp
 simp [ho, hx, hy, Instr.indexAt, run_underlying ht, asIntOf, sizeOf, typeInfo, hj, hjs, hi, add_nat, Result.andThen, Instr.sureAddr]
theorem wp_store_rowU_g {P : Program} {o : Oper} {a : Act} {w : World} {K : Act → World → Prop} {Q : Exit → Act → World → Prop} (ty : TypeId) (x y : Operand) (ho : o.op = .store ty x y) {g : Nat} {t : TypeId} {old : Array Value} (cells : Array Value) (hb : Blk w g t old)
 (hx : a.eval x = .pointer (some ⟨g, 0, none⟩)) (hy : a.eval y = .agg cells) (hs : old.size = cells.size) (hi : (P.info? ty).map (·.size) = some cells.size) (h1 : ∀ v ∈ cells.toList, v.oneCell' = true)
 (h : ∀ w', Blk w' g t cells → Turn (only g) w w' → K (a.put o.dst undef) w') : o.wp P a w K Q := by
 obtain ⟨w', hr, h2, h3⟩ := run_store_row (P := P) hb hs hi h1
 unfold Oper.wp execOp
 simp only [ho, hx, hy, hr, Sem.run_bind, Sem.run_pure, Result.andThen_ok]
 exact h w' h2 h3
theorem wp_store1U {P : Program} {o : Oper} {a : Act} {w : World} {K : Act → World → Prop} {Q : Exit → Act → World → Prop} (ty : TypeId) (x y : Operand) (ho : o.op = .store ty x y) {g i : Nat} {t : TypeId} {old : Array Value} {v : Value} (hb : Blk w g t old)
 (hx : a.eval x = .pointer (some ⟨g, i, none⟩)) (hy : a.eval y = v) (hi : i < old.size) (hv : v.cells = #[v]) (h1 : v.oneCell' = true) (hsz : (P.info? ty).map (·.size) = some 1)
 (h : ∀ w', Blk w' g t (old.setIfInBounds i v) → Turn (only g) w w' → K (a.put o.dst undef) w') : o.wp P a w K Q := by
 obtain ⟨j, hj, hjs⟩ := Option.map_eq_some_iff.1 hsz
 have hc : w.cell? ⟨g, i, none⟩ = some (old[i]) := by rw [hb.cell i, Array.getElem?_eq_getElem hi]
 have hf : w.frozen? ⟨g, i, none⟩ = false := hb.frozen i
 have hst : (Instr.storeAt ty (.pointer (some ⟨g, i, none⟩)) v).run P w = .ok () (w.setCell ⟨g, i, none⟩ v) := by
  have h0 : (⟨g, i, none⟩ : Addr).add 0 = ⟨g, i, none⟩ := by simp [Addr.add]
  simp [Instr.storeAt, storeVar, hv, Instr.sureAddr, sizeOf, typeInfo, hj, hjs, Result.andThen, storeCells, run_store _ _ _ _ _ h1, stored, h0, hc, hf]
 unfold Oper.wp execOp
 simp only [ho, hx, hy, hst, Sem.run_bind, Sem.run_pure, Result.andThen_ok]
 exact h _ (hb.set_ i v) ((Turn.refl _ w).at_ i v)
theorem run_isAgg_plain {P : Program} {ty : TypeId} (hp : plainB P ty = true) (W : World) : (isAgg ty).run P W = .ok false W := by
 unfold isAgg
 unfold plainB at hp
 split at hp
 ·cases hp
 ·cases hp
 ·cases hp
 ·rename_i h1 h2 h3
  cases hu : P.underlying ty with
  | none => exact absurd hu h3
  | some d =>
    rw [Sem.run_bind, run_underlying hu W]
    cases d <;> first | rfl | exact absurd hu (h1 _) | exact absurd hu (h2 _ _)
theorem exec_index1 {P : Program} {a : Act} {o : Oper} {W : World} {t e : TypeId} {x y : Operand} {cs : Array Value} {n i : Nat} {v : Value} {k : IntKind} (ho : o.op = .index t x y) (hx : a.eval x = .agg cs) (hy : a.eval y = .int k (i : Int)) (ht : P.underlying t = some (.array n e))
 (hi : i < n) (hs : (P.info? e).map (·.size) = some 1) (hp : plainB P e = true) (hv : cs[i]? = some v) : (execOp a.eval o).run P W = .ok (.value v) W := by
 obtain ⟨j, hj, hjs⟩ := Option.map_eq_some_iff.1 hs
 have h1 : (Instr.index t (.agg cs) (.int k (i : Int))).run P W = .ok v W := by
  unfold Instr.index
  simp [asIntOf, run_underlying ht, hi, sizeOf, typeInfo, hj, hjs, part, run_isAgg_plain hp W, hv, Result.andThen]
 unfold execOp
 simp only [ho, hx, hy, h1, Sem.run_bind, Sem.run_pure, Result.andThen_ok]
open Sh (Wd B8 H8)
set_option maxRecDepth 20000
theorem sx_neg {a : Act} {o : Oper} {W : World} {x : Operand} {n : Nat} (ho : o.op = .unOp .neg 3 x) (hx : a.eval x = .int .i64 (n : Int)) (hn : n < 32) : (execOp a.eval o).run Tryz.prog W = .ok (.value (.int .i64 (-(n : Int)))) W := by
 unfold execOp
 simp only [ho, hx]
 go_simp
 rw [IntKind.wrap_i64]
 omega
theorem sx_32 {a : Act} {o : Oper} {W : World} {x : Operand} {n : Nat} (ho : o.op = .binOp .sub 3 (.const (.int .i64 32)) x 3) (hx : a.eval x = .int .i64 (n : Int)) (hn : n < 32) : (execOp a.eval o).run Tryz.prog W = .ok (.value (.int .i64 ((32 - n : Nat) : Int))) W := by
 unfold execOp
 simp only [ho, hx]
 go_simp
 rw [IntKind.wrap_i64]
 omega
theorem turn_walk (x : Wd) (n : Nat) (w : World) (h1 : 1 ≤ n) (hn : n < 32) : Calls Tryz.prog 96 #[.int .u32 (x.toNat : Int), .int .i64 (-(n : Int))] w fun e w' => e = .returned (.int .u32 ((Sh.rot x n).toNat : Int)) ∧ w = w' := by
 have H1 := zH h1
 have HN := zH hn
 clear h1 hn
 go_enter Tryz.func96, Tryz.ntmps96
 go_upto_region 0 with fail
 refine wp_region_lit ?_
 refine nA (.int .u32 0) ?_;simp only [zz]
 go_upto_region 1 with fail
 refine wp_region_lit ?_
 refine nM (.int .i64 (-(n : Int))) ?_;simp only [zz];refine nR (.int .u64 ((18446744073709551616 - n : Nat) : Int)) (wd_cvn rfl rfl H1.out HN.out) ?_;simp only [zz];refine nR (.int .u64 ((32 - n : Nat) : Int)) (wd_and31 rfl rfl H1.out HN.out) ?_;simp only [zz];refine nA (.int .u64 ((32 - n : Nat) : Int)) ?_;simp only [zz]
 go_upto_region 2 with fail
 refine wp_region_lit ?_
 refine nM (.int .u32 ((x).toNat : Int)) ?_;simp only [zz];refine nM (.int .u64 ((32 - n : Nat) : Int)) ?_;simp only [zz];refine nR (.int .u32 ((x <<< (32 - n)).toNat : Int)) (wd_shlc rfl rfl rfl (by have := H1.out; omega)) ?_;simp only [zz];refine nM (.int .u32 ((x).toNat : Int)) ?_;simp only [zz];refine nM (.int .u64 ((32 - n : Nat) : Int)) ?_;simp only [zz];refine nR (.int .u64 (n : Int)) (wd_sub32 rfl rfl HN.out) ?_;simp only [zz];refine nR (.int .u32 ((x >>> n).toNat : Int)) (wd_shrc rfl rfl rfl HN.out) ?_;simp only [zz];refine nR (.int .u32 (((x <<< (32 - n)) ||| (x >>> n)).toNat : Int)) (wd_or rfl rfl rfl) ?_;simp only [zz];refine nA (.int .u32 (((x <<< (32 - n)) ||| (x >>> n)).toNat : Int)) ?_;simp only [zz]
 go_wp2_with fail
 go_ret
 exact ⟨ret_int (by rw [BitVec.or_comm]; rfl), rfl⟩
theorem rot_walk (x : Wd) (n : Nat) (w : World) (h1 : 1 ≤ n) (hn : n < 32) : Calls Tryz.prog 74 #[.int .u32 (x.toNat : Int), .int .i64 (n : Int)] w fun e w' => e = .returned (.int .u32 ((Sh.rot x n).toNat : Int)) ∧ w = w' := by
 have H1 := zH h1
 have HN := zH hn
 clear h1 hn
 go_enter Tryz.func74, Tryz.ntmps74
 go_upto_region 0 with fail
 refine wp_region_lit ?_
 refine nA (.int .u32 0) ?_;simp only [zz]
 go_upto_region 1 with fail
 refine wp_region_lit ?_
 refine nM (.int .u32 ((x).toNat : Int)) ?_;simp only [zz];refine nM (.int .i64 (n : Int)) ?_;simp only [zz];refine nR (.int .i64 (-(n : Int))) (sx_neg rfl rfl HN.out) ?_;simp only [zz]
 refine wpList_op_g rfl fun K9 HK9 => ?_
 go_wp2_with fail
 refine (turn_walk x n w H1.out HN.out).mono ?_
 rintro e w9 ⟨rfl, rfl⟩
 refine HK9.out _ _ ?_
 clear HK9
 try simp only [zz]
 refine nA (.int .u32 ((Sh.rot x n).toNat : Int)) ?_;simp only [zz]
 go_wp2_with fail
 go_ret
 exact ⟨rfl, rfl⟩
theorem rrot_walk (x : Wd) (n : Nat) (w : World) (h1 : 1 ≤ n) (hn : n < 32) : Calls Tryz.prog 105 #[.int .u32 (x.toNat : Int), .int .i64 (n : Int)] w fun e w' => e = .returned (.int .u32 ((Sh.rot x n).toNat : Int)) ∧ Turn nowhere w w' := by
 have H1 := zH h1
 have HN := zH hn
 clear h1 hn
 go_enter Tryz.func105, Tryz.ntmps105
 go_upto_region 0 with fail
 refine wp_region_lit ?_
 refine nA (.int .u32 0) ?_;simp only [zz]
 go_upto_region 1 with fail
 refine wp_region_alw (fun W => True) (by kernel_rfl) ?_
 have hS0 : (fun W => True) w.drew := trivial
 have HD := zH ((Turn.refl nowhere w).drew)
 generalize w.drew = wd at *
 refine aM 0 (.int .u32 ((x).toNat : Int)) hS0 ?_;simp only [zz];refine aM 1 (.int .i64 (n : Int)) hS0 ?_;simp only [zz];refine aU 2 (.int .u32 ((x >>> n).toNat : Int)) rfl (fun W hW => wd_shri rfl rfl rfl HN.out) hS0 ?_;simp only [zz];refine aM 3 (.int .u32 ((x).toNat : Int)) hS0 ?_;simp only [zz];refine aM 4 (.int .i64 (n : Int)) hS0 ?_;simp only [zz];refine aU 5 (.int .i64 ((32 - n : Nat) : Int)) rfl (fun W hW => sx_32 rfl rfl HN.out) hS0 ?_;simp only [zz];refine aU 6 (.int .u32 ((x <<< (32 - n)).toNat : Int)) rfl (fun W hW => wd_shli rfl rfl rfl (by have := H1.out; omega)) hS0 ?_;simp only [zz];refine aU 7 (.int .u32 ((Sh.rot x n).toNat : Int)) rfl (fun W hW => wd_or rfl rfl rfl) hS0 ?_;simp only [zz];refine aU 8 (.int .u32 ((Sh.rot x n).toNat : Int)) rfl (fun W hW => gx_assign rfl rfl) hS0 ?_;simp only [zz]
 refine alw_done rfl ?_
 refine NoPanic.normal ?_
 clear hS0
 try simp only [zz]
 go_wp2_with fail
 go_ret
 exact ⟨rfl, HD.out⟩
set_option maxRecDepth 20000
def wds (l : List Wd) : Array Value := (l.map fun x => Value.int .u32 (x.toNat : Int)).toArray
theorem wds_size (l : List Wd) : (wds l).size = l.length := by simp [wds]
theorem wds_one (l : List Wd) : ∀ v ∈ (wds l).toList, v.oneCell' = true := fun v hv => by
 simp only [wds, List.mem_map] at hv
 obtain ⟨x, -, rfl⟩ := hv
 rfl
theorem wds_at (l : List Wd) {j : Nat} (hj : j < l.length) : (wds l)[j]? = some (.int .u32 ((l.getD j 0).toNat : Int)) := by
 simp only [wds, List.getElem?_toArray, List.getElem?_map]
 rw [List.getD_eq_getElem?_getD, List.getElem?_eq_getElem hj]
 rfl
theorem wds_set (l : List Wd) (i : Nat) (x : Wd) : (wds l).setIfInBounds i (.int .u32 (x.toNat : Int)) = wds (l.set i x) := by
 simp only [wds, List.setIfInBounds_toArray, List.map_set]
theorem bc_size (t : B8) : (byteCells t).size = t.length := by simp [byteCells]
theorem bc_one (t : B8) : ∀ v ∈ (byteCells t).toList, v.oneCell' = true := fun v hv => by
 simp only [byteCells, List.mem_map] at hv
 obtain ⟨x, -, rfl⟩ := hv
 rfl
theorem bc_at (l : B8) {j : Nat} (hj : j < l.length) : (byteCells l)[j]? = some (.int .u8 ((l.getD j 0).toNat : Int)) := by
 simp only [byteCells, List.getElem?_toArray, List.getElem?_map]
 rw [List.getD_eq_getElem?_getD, List.getElem?_eq_getElem hj]
 rfl
theorem bc_set (l : B8) (i : Nat) (x : UInt8) : (byteCells l).setIfInBounds i (.int .u8 (x.toNat : Int)) = byteCells (l.set i x) := by
 simp only [byteCells, List.setIfInBounds_toArray, List.map_set]
theorem ld_w {w : World} {g : Nat} {t : TypeId} {l : List Wd} (h : Blk w g t (wds l)) {i : Nat} (hi : i < l.length) : w.cell? ⟨g, 0 + i * 1, none⟩ = some (.int .u32 ((l.getD i 0).toNat : Int)) := by
 rw [h.cell, Nat.zero_add, Nat.mul_one, wds_at l hi]
theorem ld_b {w : World} {g : Nat} {t : TypeId} {l : B8} (h : Blk w g t (byteCells l)) {i : Nat} (hi : i < l.length) : w.cell? ⟨g, 0 + i * 1, none⟩ = some (.int .u8 ((l.getD i 0).toNat : Int)) := by
 rw [h.cell, Nat.zero_add, Nat.mul_one, bc_at l hi]
theorem set_mid {α : Type} {A B : List α} {i : Nat} (hA : A.length = i) (v : α) (hB : B ≠ []) : (A ++ B).set i v = (A ++ [v]) ++ B.tail := by
 subst hA
 rw [List.set_append_right _ _ (Nat.le_refl _), Nat.sub_self]
 cases B with
 | nil => exact absurd rfl hB
 | cons b B => simp
theorem size_u32 : (Tryz.prog.info? 93).map (·.size) = some 1 := by kernel_rfl
theorem size_u8 : (Tryz.prog.info? 5).map (·.size) = some 1 := by kernel_rfl
theorem size_wds : (Tryz.prog.info? 95).map (·.size) = some 8 := by kernel_rfl
theorem size_pc : (Tryz.prog.info? 90).map (·.size) = some 64 := by kernel_rfl
theorem size_u64 : (Tryz.prog.info? 130).map (·.size) = some 64 := by kernel_rfl
theorem size_hs : (Tryz.prog.info? 76).map (·.size) = some 32 := by kernel_rfl
theorem zero_wds (w : World) : (zeroValue 95).run Tryz.prog w = .ok (.agg (wds (List.replicate 8 0))) w := by kernel_rfl
theorem zero_u64 (w : World) : (zeroValue 130).run Tryz.prog w = .ok (.agg (wds (List.replicate 64 0))) w := by kernel_rfl
theorem zero_pc (w : World) : (zeroValue 90).run Tryz.prog w = .ok (.agg (byteCells (Sh.zs 64))) w := by kernel_rfl
theorem zero_hs (w : World) : (zeroValue 76).run Tryz.prog w = .ok (.agg (byteCells (Sh.zs 32))) w := by kernel_rfl
theorem box_wds (l : List Wd) (w : World) : (Instr.box 95 (.agg (wds l))).run Tryz.prog w = .ok (.pointer (some ⟨w.heap.size, 0, none⟩)) (w.alloc (.cells (wds l) 95)) := by
 simp [Instr.box, newVar, newRow, Result.andThen, Value.cells]
theorem box_pc (l : B8) (w : World) : (Instr.box 90 (.agg (byteCells l))).run Tryz.prog w = .ok (.pointer (some ⟨w.heap.size, 0, none⟩)) (w.alloc (.cells (byteCells l) 90)) := by
 simp [Instr.box, newVar, newRow, Result.andThen, Value.cells]
theorem h8_len (s : H8) : s.l.length = 8 := rfl
theorem build_h8 (s : H8) (W : World) : (Instr.build 95 #[(0, .int .u32 (s.a.toNat : Int)), (1, .int .u32 (s.b.toNat : Int)), (2, .int .u32 (s.c.toNat : Int)), (3, .int .u32 (s.d.toNat : Int)), (4, .int .u32 (s.e.toNat : Int)), (5, .int .u32 (s.f.toNat : Int)), (6, .int .u32 (s.g.toNat : Int)), (7, .int .u32 (s.h.toNat : Int))]).run Tryz.prog W = .ok (.agg (wds s.l)) W := by kernel_rfl
theorem gx_build8 {P : Program} {a : Act} {o : Oper} {t : TypeId} {x0 x1 x2 x3 x4 x5 x6 x7 : Operand} {u0 u1 u2 u3 u4 u5 u6 u7 r : Value} {W : World} (ho : o.op = .build t #[(0, x0), (1, x1), (2, x2), (3, x3), (4, x4), (5, x5), (6, x6), (7, x7)]) (h0 : a.eval x0 = u0) (h1 : a.eval x1 = u1) (h2 : a.eval x2 = u2) (h3 : a.eval x3 = u3) (h4 : a.eval x4 = u4) (h5 : a.eval x5 = u5) (h6 : a.eval x6 = u6) (h7 : a.eval x7 = u7)
 (h : (Instr.build t #[(0, u0), (1, u1), (2, u2), (3, u3), (4, u4), (5, u5), (6, u6), (7, u7)]).run P W = .ok r W) : (execOp a.eval o).run P W = .ok (.value r) W := by
 simp [execOp, ho, h0, h1, h2, h3, h4, h5, h6, h7, h, Result.andThen]
theorem b8_xor {a : Act} {o : Oper} {W : World} {x y : Operand} {t u : TypeId} {n m : UInt8} (ho : o.op = .binOp .xor t x y u) (hx : a.eval x = .int .u8 (n.toNat : Int)) (hy : a.eval y = .int .u8 (m.toNat : Int)) : (execOp a.eval o).run Tryz.prog W = .ok (.value (.int .u8 ((n ^^^ m).toNat : Int))) W := by
 obtain ⟨r, hr⟩ : ∃ r : Nat, (n ^^^ m).toNat = r := ⟨_, rfl⟩
 rw [hr]
 unfold execOp
 simp only [ho, hx, hy]
 go_simp
 rw [u8_xor_nat _ _ n.toNat_lt m.toNat_lt, ← hr, UInt8.toNat_xor]
theorem wpList_put {P : Program} {ops : Array Oper} {rest : List Oper} {o : Oper} {a : Act} {w : World} {Q : Exit → Act → World → Prop} (hgd : Region.wanted o (yielded ops a.tmps) = true) (ty : TypeId) (x y : Operand) (ho : o.op = .store ty x y) (v : Value) (new : Array Value) {g i : Nat} {t : TypeId} {old : Array Value} (hb : Blk w g t old)
 (hx : a.eval x = .pointer (some ⟨g, i, none⟩)) (hy : a.eval y = v) (hi : i < old.size) (hv : v.cells = #[v]) (h1 : v.oneCell' = true) (hsz : (P.info? ty).map (·.size) = some 1) (hn : old.setIfInBounds i v = new)
 (h : ∀ w', Blk w' g t new → Turn (only g) w w' → wpList P ops Q rest (a.put o.dst undef) w') : wpList P ops Q (o :: rest) a w :=
 wpList_store1 hgd ty x y ho hb hx hy hi hv h1 hsz fun hb' ht' => h _ (hn ▸ hb') ht'
theorem wp_putU {P : Program} {o : Oper} {a : Act} {w : World} {K : Act → World → Prop} {Q : Exit → Act → World → Prop} (ty : TypeId) (x y : Operand) (ho : o.op = .store ty x y) (v : Value) (new : Array Value) {g i : Nat} {t : TypeId} {old : Array Value} (hb : Blk w g t old)
 (hx : a.eval x = .pointer (some ⟨g, i, none⟩)) (hy : a.eval y = v) (hi : i < old.size) (hv : v.cells = #[v]) (h1 : v.oneCell' = true) (hsz : (P.info? ty).map (·.size) = some 1) (hn : old.setIfInBounds i v = new)
 (h : ∀ w', Blk w' g t new → Turn (only g) w w' → K (a.put o.dst undef) w') : o.wp P a w K Q :=
 wp_store1U ty x y ho hb hx hy hi hv h1 hsz fun w' hb' ht' => h _ (hn ▸ hb') ht'
theorem build_pc0 (W : World) : (Instr.build 90 #[]).run Tryz.prog W = .ok (.agg (byteCells (Sh.zs 64))) W := by kernel_rfl
theorem start_walk (w : World) : Calls Tryz.prog 51 #[] w fun e w' => e = .returned (.agg (wds Sh.H0.l)) ∧ Turn nowhere w w' := by
 go_enter Tryz.func51, Tryz.ntmps51
 go_upto_region 0 with fail
 refine wp_region_lit ?_
 refine wR (v := .pointer (some ⟨(w).heap.size, 0, none⟩)) (w' := (w).alloc (.cells (wds (List.replicate 8 0)) 95)) wn (gx_alloc rfl (zero_wds _)) ?_
 simp only [zz]
 have hb_r := Blk.new (w) 95 (wds (List.replicate 8 0))
 have ht_ := (Turn.refl nowhere (w)).alloc (.cells (wds (List.replicate 8 0)) 95)
 obtain ⟨n0_, hn0_⟩ : ∃ n, n = (w).heap.size := ⟨_, rfl⟩
 have hz_r : (w).heap.size = n0_ + 0 := by rw [hn0_]; simp
 obtain ⟨r, hg_⟩ : ∃ g, g = (w).heap.size := ⟨_, rfl⟩
 rw [← hg_] at hb_r hz_r ⊢
 clear hg_
 generalize (w).alloc (.cells (wds (List.replicate 8 0)) 95) = w1 at *
 have HT1 := zH ht_
 clear ht_
 have HBr := zH hb_r
 have HLr := zH (show (w).heap.size ≤ r from by omega)
 clear hb_r
 clear hn0_ hz_r
 clear n0_
 go_upto_region 1 with fail
 refine wp_region_lit ?_
 refine nR (.agg (wds Sh.H0.l)) (gx_build8 rfl rfl rfl rfl rfl rfl rfl rfl rfl (build_h8 Sh.H0 _)) ?_;simp only [zz]
 refine wpList_store_row wn 95 (.tmp 0) (.tmp 1) rfl (wds Sh.H0.l) HBr.out rfl rfl (rfl) (by rw [size_wds] <;> rfl) (wds_one _) ?_
 intro w2 hb_ ht_
 have HB2 := zH hb_
 have HT2 := zH ht_
 clear hb_ ht_
 simp only [zz]
 have HTZ := zH (HT1.out.trans HT2.out fun k hk e => by have := HLr.out; have e : k = r := e; omega)
 go_wp2_with fail
 refine bodyPost_ret (v := .agg (wds Sh.H0.l)) (ret_cell1_g rfl _ _ r _ _ _ rfl HB2.out Tryz.underlying95 rfl (by rw [size_wds] <;> rfl)) rfl ?_
 exact ⟨rfl, HTZ.out⟩
theorem masked_walk (p : B8) (x : UInt8) (w : World) (hp : p.length = 64) : Calls Tryz.prog 52 #[.agg (byteCells p), .int .u8 (x.toNat : Int)] w fun e w' => e = .returned (.agg (byteCells (Sh.mask p x))) ∧ Turn nowhere w w' := by
 have HP := zH hp
 have HM := zH (show (byteCells (Sh.mask p x)).size = 64 from by rw [bc_size, Sh.mask_len, hp])
 clear hp
 go_enter Tryz.func52, Tryz.ntmps52
 go_upto_region 0 with fail
 refine wp_region_lit ?_
 refine wR (v := .pointer (some ⟨(w).heap.size, 0, none⟩)) (w' := (w).alloc (.cells (byteCells p) 90)) wn (gx_box rfl rfl (box_pc p _)) ?_
 simp only [zz]
 refine wR (v := .pointer (some ⟨((w).alloc (.cells (byteCells p) 90)).heap.size, 0, none⟩)) (w' := ((w).alloc (.cells (byteCells p) 90)).alloc (.cells (byteCells (Sh.zs 64)) 90)) wn (gx_alloc rfl (zero_pc _)) ?_
 simp only [zz]
 have hb_q := (Blk.new (w) 90 (byteCells p)).alloc (.cells (byteCells (Sh.zs 64)) 90)
 have hb_r := Blk.new ((w).alloc (.cells (byteCells p) 90)) 90 (byteCells (Sh.zs 64))
 have ht_ := ((Turn.refl nowhere (w)).alloc (.cells (byteCells p) 90)).alloc (.cells (byteCells (Sh.zs 64)) 90)
 obtain ⟨n0_, hn0_⟩ : ∃ n, n = (w).heap.size := ⟨_, rfl⟩
 have hz_q : (w).heap.size = n0_ + 0 := by rw [hn0_]; simp
 have hz_r : ((w).alloc (.cells (byteCells p) 90)).heap.size = n0_ + 1 := by rw [hn0_]; simp
 obtain ⟨r, hg_⟩ : ∃ g, g = ((w).alloc (.cells (byteCells p) 90)).heap.size := ⟨_, rfl⟩
 rw [← hg_] at hb_r hz_r ⊢
 clear hg_
 obtain ⟨q, hg_⟩ : ∃ g, g = (w).heap.size := ⟨_, rfl⟩
 rw [← hg_] at hb_q hz_q ⊢
 clear hg_
 generalize ((w).alloc (.cells (byteCells p) 90)).alloc (.cells (byteCells (Sh.zs 64)) 90) = w1 at *
 have HT1 := zH ht_
 clear ht_
 have HBq := zH hb_q
 have HLq := zH (show (w).heap.size ≤ q from by omega)
 clear hb_q
 have HBr := zH hb_r
 have HLr := zH (show (w).heap.size ≤ r from by omega)
 clear hb_r
 have HNqr := zH (show q ≠ r from by omega)
 clear hn0_ hz_q hz_r
 clear n0_
 go_upto_region 1 with fail
 refine wp_region_lit ?_
 refine nM (.int .i64 0) ?_;simp only [zz]
 go_wp2_with fail
 go_loopg [6] 64 (fun gk iv wr => ∃ i : Nat, iv = .int .i64 (i : Int) ∧ i + gk = 64 ∧ Blk wr q 90 (byteCells (Sh.mask (p.take i) x ++ p.drop i)) ∧ Blk wr r 90 (byteCells (Sh.zs 64)) ∧ Turn nowhere w wr)
 case atStart => exact ⟨0, rfl, rfl, HBq.out, HBr.out, HT1.out⟩
 obtain ⟨i, rfl, hgk, hbq, hbr, htr⟩ := hrel
 have HGK := zH hgk
 have HBQ := zH hbq
 have HBR := zH hbr
 have HTR := zH htr
 have yi : (i : Int) ≤ 64 := by omega
 clear hgk hbq hbr htr
 by_cases hlt : i < 64
 ·have HLT := zH hlt
  have y3 : (i : Int) < 64 := by omega
  have HLE := zH (show (Sh.mask (p.take i) x).length = i from by rw [Sh.mask_len, List.length_take, HP.out]; omega)
  have HLL := zH (show i < (Sh.mask (p.take i) x ++ p.drop i).length from by rw [List.length_append, HLE.out, List.length_drop, HP.out]; omega)
  have HGD := zH (show (Sh.mask (p.take i) x ++ p.drop i).getD i 0 = p.getD i 0 from by rw [List.getD_eq_getElem?_getD, List.getElem?_append_right (by rw [HLE.out]; omega), HLE.out, Nat.sub_self, List.getElem?_drop, Nat.add_zero, ← List.getD_eq_getElem?_getD])
  clear hlt
  go_upto_region 2 with fail
  refine wp_region_lit ?_
  refine nR (.bool true) (ix_lss rfl rfl rfl (decide_eq_true y3)) ?_;simp only [zz]
  go_upto_region 3 with fail
  refine wp_region_lit ?_
  refine nM (.int .i64 (i : Int)) ?_;simp only [zz];refine nA (.int .i64 (i : Int)) ?_;simp only [zz]
  go_upto_region 4 with fail
  refine wp_region_lit ?_
  refine nM (.int .i64 (i : Int)) ?_;simp only [zz];refine nR (.pointer (some ⟨q, 0 + i * 1, none⟩)) (gx_aaddr_g (i := i) (sz := 1) rfl rfl rfl Tryz.underlying90 size_u8 HLT.out rfl) ?_;simp only [zz];refine nR (.int .u8 ((p.getD i 0).toNat : Int)) (exec_load1 rfl rfl (by kernel_rfl) (by rw [ld_b HBQ.out HLL.out, HGD.out])) ?_;simp only [zz];refine nM (.int .u8 (x.toNat : Int)) ?_;simp only [zz];refine nR (.int .u8 ((p.getD i 0 ^^^ x).toNat : Int)) (b8_xor rfl rfl rfl) ?_;simp only [zz];refine nR (.pointer (some ⟨q, 0 + i * 1, none⟩)) (gx_aaddr_g (i := i) (sz := 1) rfl rfl rfl Tryz.underlying90 size_u8 HLT.out rfl) ?_;simp only [zz]
  refine wpList_put wn 5 (.tmp 14) (.tmp 13) rfl (.int .u8 ((p.getD i 0 ^^^ x).toNat : Int)) (byteCells (Sh.mask (p.take (i + 1)) x ++ p.drop (i + 1))) HBQ.out rfl rfl (by rw [bc_size]; have := HLL.out; omega) rfl rfl size_u8 (by
   rw [Nat.zero_add, Nat.mul_one, bc_set, set_mid HLE.out _ (by intro e; have e1 := congrArg List.length e; have := HLT.out; rw [List.length_drop, HP.out] at e1; simp at e1; omega), List.tail_drop]
   congr 2
   rw [List.take_succ_eq_append_getElem (by rw [HP.out]; exact HLT.out), Sh.mask, Sh.mask, List.map_append, List.getD_eq_getElem?_getD, List.getElem?_eq_getElem (by rw [HP.out]; exact HLT.out)]
   rfl) ?_
  intro w4 hb4 ht4
  have HBQ4 := zH hb4
  have HNqr := zH (show r ≠ q from fun e => HNqr.out e.symm)
  have HBR4 := zH (HBR.out.turn (F := only q) ht4 fun e => HNqr.out e)
  have HTR4 := zH (HTR.out.trans ht4 fun k hk e => by have := HLq.out; have e : k = q := e; omega)
  clear hb4 ht4
  simp only [zz]
  go_upto_region 5 with fail
  refine wp_region_lit ?_
  refine nR (.int .i64 ((i + 1 : Nat) : Int)) (ix_add rfl rfl rfl (by omega) (by omega)) ?_;simp only [zz];refine nM (.int .i64 ((i + 1 : Nat) : Int)) ?_;simp only [zz]
  go_wp2_with fail
  go_roundg (64 - (i + 1))
  case measure => have := HGK.out; have := HLT.out; omega
  case rel => exact ⟨i + 1, rfl, by have := HLT.out; omega, HBQ4.out, HBR4.out, HTR4.out⟩
 ·obtain rfl : i = 64 := by omega
  clear hlt
  have HBQZ := zH (show Blk wr q 90 (byteCells (Sh.mask p x)) from by have h := HBQ.out; rw [List.take_of_length_le (by rw [HP.out]; omega), List.drop_eq_nil_of_le (by rw [HP.out]; omega), List.append_nil] at h; exact h)
  clear HBQ
  go_upto_region 2 with fail
  refine wp_region_lit ?_
  refine nR (.bool false) (ix_lss rfl rfl rfl (by decide)) ?_;simp only [zz]
  go_upto_region 6 with fail
  refine wp_region_lit ?_
  refine nR (.agg (byteCells (Sh.mask p x))) (gx_loads_g rfl rfl (blk_range_g HBQZ.out) Tryz.underlying90 rfl (size_pc.trans (congrArg some HM.out.symm))) ?_;simp only [zz]
  refine wpList_store_row wn 90 (.tmp 4) (.tmp 16) rfl (byteCells (Sh.mask p x)) HBR.out rfl rfl (by rw [HM.out]; rfl) (by rw [size_pc, HM.out]) (bc_one _) ?_
  intro w4 hb_ ht_
  have HBZ := zH hb_
  have HT4 := zH ht_
  clear hb_ ht_
  simp only [zz]
  have HTZ := zH (HTR.out.trans HT4.out fun k hk e => by have := HLr.out; have e : k = r := e; omega)
  go_wp2_with fail
  refine bodyPost_ret (v := .agg (byteCells (Sh.mask p x))) (ret_cell1_g rfl _ _ r _ _ _ rfl HBZ.out Tryz.underlying90 rfl (by rw [size_pc, HM.out] <;> rfl)) rfl ?_
  exact ⟨rfl, HTZ.out⟩
end Go.Proofs.YtkagijifkpoplaaGreatDoor
