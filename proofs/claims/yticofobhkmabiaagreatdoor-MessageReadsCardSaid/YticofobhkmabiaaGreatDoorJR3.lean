/-
  Texts of MessageReads in one file, shortened: MsFld FdAm FdDg FdRa FdRb FdRk FdPb FdTb FdPa FdPd FdPe FdPf FdPh FdTx FdRows FdPw FdWit. Conditions: the tables and the errors read as the program's text lays them.
-/
import Derived.Test.YticofobhkmabiaaGreatDoorJR2
import Derived.Test.YticofobhkmabiaaGreatDoorJR0
import Derived.Lib.ItoaMem
import Derived.Lib.AppendIntMem
import Derived.Lib.SmallJoins
import Derived.Lib.LaidTab
import Derived.IntWalk
import Derived.Test.YticofobhkmabiaaGreatDoorRows
import Derived.LaidSub
import Derived.MakeChecks
import Derived.OpenShut
import Derived.WalkKit
import Derived.ProofKit
import Derived.Lay
import Derived.LaidMore
import Derived.Deep.DeepHandedRow
import Derived.Stop.Joined
set_option linter.unusedVariables false
set_option linter.unusedSimpArgs false
set_option maxRecDepth 40000
set_option maxHeartbeats 20000000
namespace Go.Proofs.YticofobhkmabiaaGreatDoor
open Go.RowKit
open Fdd
def putR (f : Fm) (t b : List UInt8) : List UInt8 := if f.check t = 0 then b ++ f.put t else []
def PutPost (w : World) (f : Fm) (t b : List UInt8) (e : Ending) (w' : World) : Prop := ∃ A n c, e = .returned (.tuple #[.slice A n c, .int .i64 (f.check t)]) ∧ Own w' w.heap.size 5 (.slice A n c) (putR f t b) ∧ Turn nowhere w w'
theorem put_all {w : World} {f : Fm} {n cap : Nat} {A : Option Addr} {b t : List UInt8} (hr : RowsT w) (hb : Bs w A n b) (hn : n ≤ 140737488351232) :
 Calls Tryz.prog 62 #[.slice A n cap, fmV f, strV t] w (PutPost w f t b) := by
 by_cases h : f.check t = 0
 ·obtain ⟨hm, hrt⟩ := check_cases h
  obtain ⟨k, s, c, rfl, h1, h2, h3⟩ := fm_exp hm
  refine (put_main (cap := cap) h1 h2 h3 hrt hr hb (by omega)).mono ?_
  rintro e w' ⟨A', n', c', rfl, ho, ht⟩
  refine ⟨A', n', c', by rw [h], ?_, ht⟩
  unfold putR
  rw [if_pos h]
  exact ho
 ·refine (put_bad (cap := cap) (n := n) (A := A) h hr).mono ?_
  rintro e w' ⟨rfl, ht⟩
  refine ⟨none, 0, 0, rfl, ?_, ht⟩
  unfold putR
  rw [if_neg h]
  exact World.ownsRow_nil w' _ _ _
def tk : Except Int (List UInt8 × List UInt8) → List UInt8 × List UInt8 × Int
 | .error k => ([], [], k)
 | .ok (t, r) => (t, r, 0)
def TakeP (w : World) (r : List UInt8 × List UInt8 × Int) (e : Ending) (w' : World) : Prop := ∃ A n c, e = .returned (.tuple #[strV r.1, .slice A n c, .int .i64 r.2.2]) ∧ Own w' w.heap.size 5 (.slice A n c) r.2.1 ∧ Turn nowhere w w'
theorem takeP_of {w w' : World} {r : Except Int (List UInt8 × List UInt8)} {e : Ending} (h : TakeF r w.heap.size e w') (ht : Turn nowhere w w') : TakeP w (tk r) e w' := by
 cases r with
 | error k =>
   have h' : e = .returned (.tuple #[strV [], .slice none 0 0, .int .i64 k]) := h
   exact ⟨none, 0, 0, h', World.ownsRow_nil w' _ _ _, ht⟩
 | ok tr =>
   obtain ⟨t, rest⟩ := tr
   obtain ⟨A, n, c, he, ho⟩ := h
   exact ⟨A, n, c, he, ho, ht⟩
theorem take_all {w : World} {f : Fm} {n cap : Nat} {A : Option Addr} {b : List UInt8} (hr : RowsT w) (hb : Bs w A n b) (hcap : n ≤ cap) (hn : n ≤ 140737488355328) :
 Calls Tryz.prog 99 #[.slice A n cap, fmV f] w (TakeP w (tk (f.take b))) := by
 cases hm : f.may with
 | false =>
   refine (take_bad hm).mono ?_
   rintro e w' ⟨rfl, h2⟩
   have : f.take b = .error 40 := by
    unfold Fm.take
    rw [if_neg (by rw [hm]; decide)]
   rw [this]
   exact ⟨none, 0, 0, rfl, World.ownsRow_nil w' _ _ _, h2⟩
 | true =>
   obtain ⟨k, s, c, rfl, h1, h2, h3⟩ := fm_exp hm
   exact (take_main h1 h2 h3 hr hb hcap hn).mono fun e w' ⟨h, ht⟩ => takeP_of h ht
namespace Fdd
end Fdd
def PowT (W : World) : Prop := Lib.TabIs Tryz.prog W "internal/strconv.uint64pow10" .u64 Lib.pow10Tab
theorem gPow : Tryz.prog.globalNamed "internal/strconv.uint64pow10" = some 15 := by kernel_rfl
theorem PowT.turn {W W' : World} (h : PowT W) (ht : Turn nowhere W W') : PowT W' := Go.Joins.tab_stays gPow h (ht.below (Nat.le_refl _) (fun _ _ e=>e)) (Nat.le_refl _)
theorem itoa_at {n : Int} {W : World} (h0 : -9223372036854775808 ≤ n) (h1 : n ≤ 9223372036854775807) (h : PowT W) : ItoaAt n W := by
 refine (Any.strconv_Itoa Tryz.laysM171 n h0 h1 W h).mono ?_
 rintro e w' ⟨rfl, k, os, rfl⟩
 exact ⟨rfl, Turn.of_below (Lib.below_grow W.heap.size W (Nat.le_refl _) k os) (Nat.le_refl _)⟩
theorem byte_of {P : UInt8 → Prop} (h : ∀ n : Nat, n < 256 → P (UInt8.ofNat n)) (b : UInt8) : P b := by
 have h2 := h b.toNat b.toNat_lt
 rwa [show UInt8.ofNat b.toNat = b by simp] at h2
theorem dec_byte (b : UInt8) : dec.contains b = decide (48 ≤ b.toNat ∧ b.toNat ≤ 57) := byte_of (P := fun b => dec.contains b = decide (48 ≤ b.toNat ∧ b.toNat ≤ 57)) (by decide +kernel) b
theorem hex_byte (b : UInt8) : hexs.contains b = decide ((48 ≤ b.toNat ∧ b.toNat ≤ 57) ∨ (97 ≤ b.toNat ∧ b.toNat ≤ 102)) := byte_of (P := fun b => hexs.contains b = decide ((48 ≤ b.toNat ∧ b.toNat ≤ 57) ∨ (97 ≤ b.toNat ∧ b.toNat ≤ 102))) (by decide +kernel) b
theorem sgn_byte (b : UInt8) : sgn.contains b = decide ((48 ≤ b.toNat ∧ b.toNat ≤ 57) ∨ (65 ≤ b.toNat ∧ b.toNat ≤ 90) ∨ b.toNat = 32) := byte_of (P := fun b => sgn.contains b = decide ((48 ≤ b.toNat ∧ b.toNat ≤ 57) ∨ (65 ≤ b.toNat ∧ b.toNat ≤ 90) ∨ b.toNat = 32)) (by decide +kernel) b
theorem digit_walk (b : UInt8) (w : World) :
 Calls Tryz.prog 85 #[.int .u8 (b.toNat : Int)] w fun e w' => e = .returned (.bool (dec.contains b)) ∧ w' = w := by
 rw [dec_byte]
 have hb := b.toNat_lt
 generalize b.toNat = n at *
 go_enter Tryz.func85, Tryz.ntmps85
 go_wp2
 all_goals (try go_ret)
 all_goals
  refine ⟨ret_bool ?_, rfl⟩
  rw [Bool.eq_iff_iff]
  simp only [Bool.and_eq_true, decide_eq_true_eq, Bool.false_eq_true]
  refine ⟨fun h => ?_, fun h => ?_⟩ <;> (first | omega | contradiction)
theorem hex_walk (b : UInt8) (w : World) :
 Calls Tryz.prog 78 #[.int .u8 (b.toNat : Int)] w fun e w' => e = .returned (.bool (hexs.contains b)) ∧ w' = w := by
 have hd := digit_walk b
 have HD := zH hd
 clear hd
 rw [hex_byte]
 rw [dec_byte] at HD
 have hb := b.toNat_lt
 generalize b.toNat = n at *
 go_enter Tryz.func78, Tryz.ntmps78
 by_cases h0 : 48 ≤ n ∧ n ≤ 57
 ·rw [decide_eq_true h0] at HD
  rw [decide_eq_true (show (48 ≤ n ∧ n ≤ 57) ∨ (97 ≤ n ∧ n ≤ 102) from .inl h0)]
  go_wp2_with (go_at_call 85; refine (HD.out _).mono ?_; rintro e w1 ⟨rfl, rfl⟩)
  go_ret
  exact ⟨rfl, rfl⟩
 ·rw [decide_eq_false h0] at HD
  go_wp2_with (go_at_call 85; refine (HD.out _).mono ?_; rintro e w1 ⟨rfl, rfl⟩)
  all_goals (try go_ret)
  all_goals
   refine ⟨ret_bool ?_, rfl⟩
   rw [Bool.eq_iff_iff]
   simp only [Bool.and_eq_true, decide_eq_true_eq, Bool.false_eq_true]
   refine ⟨fun h => ?_, fun h => ?_⟩ <;> (first | omega | contradiction)
theorem sign_walk (b : UInt8) (w : World) :
 Calls Tryz.prog 77 #[.int .u8 (b.toNat : Int)] w fun e w' => e = .returned (.bool (sgn.contains b)) ∧ w' = w := by
 have hd := digit_walk b
 have HD := zH hd
 clear hd
 rw [sgn_byte]
 rw [dec_byte] at HD
 have hb := b.toNat_lt
 generalize b.toNat = n at *
 go_enter Tryz.func77, Tryz.ntmps77
 by_cases h0 : 48 ≤ n ∧ n ≤ 57
 ·rw [decide_eq_true h0] at HD
  rw [decide_eq_true (show (48 ≤ n ∧ n ≤ 57) ∨ (65 ≤ n ∧ n ≤ 90) ∨ n = 32 from .inl h0)]
  go_wp2_with (go_at_call 85; refine (HD.out _).mono ?_; rintro e w1 ⟨rfl, rfl⟩)
  go_ret
  exact ⟨rfl, rfl⟩
 ·rw [decide_eq_false h0] at HD
  go_wp2_with (go_at_call 85; refine (HD.out _).mono ?_; rintro e w1 ⟨rfl, rfl⟩)
  all_goals (try go_ret)
  all_goals
   refine ⟨ret_bool ?_, rfl⟩
   rw [Bool.eq_iff_iff]
   simp only [Bool.and_eq_true, Bool.or_eq_true, decide_eq_true_eq, Bool.false_eq_true, beq_iff_eq]
   refine ⟨fun h => ?_, fun h => ?_⟩ <;> (first | omega | contradiction | trivial)
theorem rmay_walk (f : Fm) (w : World) :
 Calls Tryz.prog 48 #[fmV f] w fun e w' => e = .returned (.bool f.may) ∧ Turn nowhere w w' := by
 obtain ⟨k, s, c⟩ := f
 unfold fmV
 go_enter Tryz.func48, Tryz.ntmps48
 go_wp2
 all_goals (try go_ret)
 all_goals
  refine ⟨ret_bool ?_, (Turn.refl _ w).alloc _⟩
  try simp only [beq_iff_eq, beq_eq_false_iff_ne, ne_eq] at *
  rw [Bool.eq_iff_iff]
  simp only [Fm.may, Bool.and_eq_true, decide_eq_true_eq, Bool.false_eq_true]
  refine ⟨fun h => ?_, fun h => ?_⟩ <;> (try dsimp only at h ⊢) <;> omega
theorem only_part {l cs : List UInt8} {k : Nat} (hk : k < l.length) (h : cs.contains (l.getD k 0) = false) : onlyOf l cs = false := by
 cases hq : onlyOf l cs with
 | false => rfl
 | true =>
   have := onlyOf_mem hq (c := l.getD k 0) (by
    rw [List.getD_eq_getElem?_getD, List.getElem?_eq_getElem hk]
    exact List.getElem_mem _)
   rw [← List.contains_iff_mem, h] at this
   cases this
theorem only_step {l cs : List UInt8} {k : Nat} (hk : k < l.length) (h0 : onlyOf (l.take k) cs = true) (h : cs.contains (l.getD k 0) = true) : onlyOf (l.take (k + 1)) cs = true := by
 unfold onlyOf at *
 rw [List.take_add_one, List.all_append, h0, List.getElem?_eq_getElem hk]
 rw [List.getD_eq_getElem?_getD, List.getElem?_eq_getElem hk] at h
 simpa using h
theorem all_walk (t : List UInt8) (w : World) (hl : t.length ≤ 9223372036854775807) :
 Calls Tryz.prog 76 #[strV t] w fun e w' => e = .returned (.bool (onlyOf t dec)) ∧ w' = w := by
 have HL := zH hl
 clear hl
 go_enter Tryz.func76, Tryz.ntmps76
 go_wp2_with fail
 obtain ⟨n, hn⟩ : ∃ n, n = t.length := ⟨_, rfl⟩
 have HN := zH hn
 clear hn
 go_loopg [3] n (fun gk i wr => ∃ k : Nat, k + gk = n ∧ i = .int .i64 (k : Int) ∧ wr = w ∧ onlyOf (t.take k) dec = true)
 case atStart => exact ⟨0, by omega, rfl, rfl, rfl⟩
 obtain ⟨k, hkl, rfl, rfl, hin⟩ := hrel
 have HKL := zH hkl
 have HIN := zH hin
 clear hkl hin
 go_upto_region 2 with fail
 refine wp_region_lit ?_
 refine wM (.int .i64 (k : Int)) ?_
 simp only [zz]
 refine wM (strV t) ?_
 simp only [zz]
 refine wR (v := .int .i64 (n : Int)) (w' := wr) rfl (by rw [HN.out]; exact exec_slen rfl rfl) ?_
 simp only [zz]
 by_cases hlt : k < n
 ·have y1 : (k : Int) < (n : Int) := by omega
  have y3 : (n : Int) ≤ 9223372036854775807 := by have := HN.out; have := HL.out; omega
  go_upto_region 4 with fail
  refine wp_region_lit ?_
  refine wM (strV t) ?_
  simp only [zz]
  refine wM (.int .i64 (k : Int)) ?_
  simp only [zz]
  refine wR (v := .int .u8 ((t.getD k 0).toNat : Int)) (w' := wr) rfl (exec_sidx rfl rfl rfl (by rw [← HN.out]; exact hlt)) ?_
  simp only [zz]
  have HLT := zH hlt
  clear hlt
  have hd := digit_walk (t.getD k 0) wr
  have hp : dec.contains (t.getD k 0) = false → onlyOf t dec = false := only_part (by rw [← HN.out]; exact HLT.out)
  have hs : dec.contains (t.getD k 0) = true → onlyOf (t.take (k + 1)) dec = true := only_step (by rw [← HN.out]; exact HLT.out) HIN.out
  have HP := zH hp
  have HS := zH hs
  clear hp hs HIN
  generalize t.getD k 0 = b at *
  cases hq : dec.contains b with
  | true =>
    rw [hq] at hd
    have HIN := zH (HS.out hq)
    go_wp2_with (go_at_call 85; refine hd.mono ?_; rintro e w1 ⟨rfl, rfl⟩)
    go_roundg (gk - 1)
    case measure => have := HKL.out; have := HLT.out; omega
    case rel => exact ⟨k + 1, by have := HKL.out; have := HLT.out; omega, by go_num, rfl, HIN.out⟩
  | false =>
    rw [hq] at hd
    have HIN := zH (HP.out hq)
    go_wp2_with (go_at_call 85; refine hd.mono ?_; rintro e w1 ⟨rfl, rfl⟩)
    go_ret
    rw [HIN.out]
    exact ⟨rfl, rfl⟩
 ·have hke : k = n := by have := HKL.out; omega
  have y1 : ¬ ((k : Int) < (n : Int)) := by omega
  have HALL := zH (show onlyOf t dec = true by
   have := HIN.out
   rwa [List.take_of_length_le (by rw [← HN.out]; omega)] at this)
  clear hlt hke
  go_wp2_with fail
  go_ret
  rw [HALL.out]
  exact ⟨rfl, rfl⟩
theorem wrap_small {x : Int} (h0 : 0 ≤ x) (h1 : x ≤ 1000000) : IntKind.i64.wrap x = x := by
 simp [IntKind.wrap, IntKind.bits, IntKind.signed]
 omega
theorem wpList_skip {P : Program} {ops : Array Oper} {rest : List Oper} {o : Oper} {a : Act} {w : World} {Q : Exit → Act → World → Prop} (hgd : Region.wanted o (yielded ops a.tmps) = false) (h : wpList P ops Q rest (a.put o.dst undef) w) : wpList P ops Q (o :: rest) a w :=
 wpList_step fun K hK => by
  rw [if_neg (by rw [hgd]; decide)]
  exact hK _ _ h
theorem only_take_len {l cs : List UInt8} {n : Nat} {st : List UInt8} : rightAll [⟨n, cs, st⟩] l = (decide (l.length = n) && onlyOf l cs) := by
 show (decide (n ≤ l.length) && (onlyOf (l.take n) cs && (l.drop n == []))) = _
 by_cases h : l.length = n
 ·rw [List.take_of_length_le (by omega), List.drop_of_length_le (by omega), decide_eq_true h, decide_eq_true (by omega)]
  simp
 ·rw [decide_eq_false h]
  by_cases h2 : n ≤ l.length
  ·have h3 : (l.drop n == []) = false := by
    cases hd : l.drop n with
    | nil =>
      have := congrArg List.length hd
      simp at this
      omega
    | cons a r => rfl
   rw [h3]
   simp
  ·rw [decide_eq_false h2]
   simp
theorem right_n {s : Nat} {c : Int} {t : List UInt8} : Fm.right ⟨1, (s : Int), c⟩ t = (decide (t.length = s) && onlyOf t dec) := only_take_len
theorem right_an {s : Nat} {c : Int} {t : List UInt8} : Fm.right ⟨3, (s : Int), c⟩ t = (decide (t.length = s) && onlyOf t sgn) := only_take_len
theorem right_b {s : Nat} {c : Int} {t : List UInt8} : Fm.right ⟨4, (s : Int), c⟩ t = (decide (t.length = 2 * s) && onlyOf t hexs) := only_take_len
theorem right_l {s : Nat} {c : Int} {t : List UInt8} : Fm.right ⟨2, (s : Int), c⟩ t = (decide (1 ≤ t.length ∧ t.length ≤ s) && onlyOf t dec) := by
 show (decide (1 ≤ t.length ∧ (t.length : Int) ≤ (s : Int)) && rightAll [⟨t.length, dec, _⟩] t) = _
 rw [only_take_len, decide_eq_true (show t.length = t.length from rfl), Bool.true_and]
 congr 1
 exact decide_eq_decide.2 ⟨fun h => ⟨h.1, by omega⟩, fun h => ⟨h.1, by omega⟩⟩
theorem right_x {s : Nat} {c : Int} {t : List UInt8} : Fm.right ⟨5, (s : Int), c⟩ t = (decide (t.length = s + 1) && (mk.contains (t.getD 0 0) && onlyOf (t.drop 1) dec)) := by
 show (decide (1 ≤ t.length) && (onlyOf (t.take 1) mk && rightAll [⟨s, dec, _⟩] (t.drop 1))) = _
 rw [only_take_len]
 cases t with
 | nil => simp
 | cons b r =>
   simp only [List.length_cons, List.take_succ_cons, List.take_zero, List.drop_succ_cons, List.drop_zero, List.getD_cons_zero]
   unfold onlyOf
   simp only [List.all_cons, List.all_nil, Bool.and_true]
   rw [decide_eq_true (show 1 ≤ r.length + 1 by omega), Bool.true_and]
   rw [show decide (r.length + 1 = s + 1) = decide (r.length = s) from decide_eq_decide.2 (by omega)]
   cases mk.contains b <;> cases decide (r.length = s) <;> simp
theorem mk_byte (b : UInt8) : mk.contains b = (decide (b.toNat = 67) || decide (b.toNat = 68)) := byte_of (P := fun b => mk.contains b = (decide (b.toNat = 67) || decide (b.toNat = 68))) (by decide +kernel) b
theorem rright_walk {k : Int} {s : Nat} {c : Int} {t : List UInt8} (w : World) (hk : 1 ≤ k ∧ k ≤ 5) (hs : 1 ≤ s ∧ s ≤ 64) (hl : t.length ≤ 9223372036854775807) :
 Calls Tryz.prog 49 #[fmV ⟨k, (s : Int), c⟩, strV t] w fun e w' => e = .returned (.bool (Fm.right ⟨k, (s : Int), c⟩ t)) ∧ Turn nowhere w w' := by
 have HL := zH hl
 have HS := zH hs
 clear hl hs
 unfold fmV
 go_enter Tryz.func49, Tryz.ntmps49
 go_upto_region 1 with fail
 have hb0 := Blk.new w 49 #[.int .i64 k, .int .i64 (s : Int), .int .i64 c]
 have ht0 := (Turn.refl nowhere w).alloc (.cells #[.int .i64 k, .int .i64 (s : Int), .int .i64 c] 49)
 generalize (w.alloc (.cells #[.int .i64 k, .int .i64 (s : Int), .int .i64 c] 49)) = w1 at *
 generalize w.heap.size = b2 at *
 have c0 : w1.cell? ⟨b2, 0, none⟩ = some (.int .i64 k) := hb0.cell 0
 have c1 : w1.cell? ⟨b2, 1, none⟩ = some (.int .i64 (s : Int)) := hb0.cell 1
 have HT1 := zH ht0
 clear hb0 ht0
 obtain ⟨n, hn⟩ : ∃ n, n = t.length := ⟨_, rfl⟩
 have HN := zH hn
 clear hn
 have hck : k = 1 ∨ k = 2 ∨ k = 3 ∨ k = 4 ∨ k = 5 := by omega
 clear hk
 rcases hck with rfl | rfl | rfl | rfl | rfl
 ·have HD := zH (show Fm.right ⟨1, (s : Int), c⟩ t = (decide (n = s) && onlyOf t dec) from by rw [HN.out]; exact right_n)
  go_upto_region 3 with fail
  refine wp_region_lit ?_
  refine wM (strV t) ?_
  simp only [zz]
  refine wR (v := .int .i64 (n : Int)) (w' := w1) rfl (by rw [HN.out]; exact exec_slen rfl rfl) ?_
  simp only [zz]
  by_cases he : n = s
  ·have HE := zH (show decide (n = s) = true from decide_eq_true he)
   have y5 : (n : Int) = (s : Int) := by omega
   clear he
   go_wp2_with (go_at_call 76; refine (all_walk t _ HL.out).mono ?_; rintro e w2 ⟨rfl, rfl⟩)
   go_ret
   rw [HD.out, HE.out]
   exact ⟨by simp, HT1.out⟩
  ·have HE := zH (show decide (n = s) = false from decide_eq_false he)
   have y5 : ¬ ((n : Int) = (s : Int)) := by omega
   clear he
   go_wp2_with fail
   go_ret
   rw [HD.out, HE.out]
   exact ⟨by simp, HT1.out⟩
 ·have HD := zH (show Fm.right ⟨2, (s : Int), c⟩ t = (decide (1 ≤ n ∧ n ≤ s) && onlyOf t dec) from by rw [HN.out]; exact right_l)
  go_upto_region 5 with fail
  refine wp_region_lit ?_
  refine wM (strV t) ?_
  simp only [zz]
  refine wR (v := .int .i64 (n : Int)) (w' := w1) rfl (by rw [HN.out]; exact exec_slen rfl rfl) ?_
  simp only [zz]
  by_cases h1 : 1 ≤ n
  ·refine wR (v := .bool true) (w' := w1) rfl (by go_simp <;> omega) ?_
   simp only [zz]
   refine wM (.bool true) ?_
   simp only [zz]
   refine wM (strV t) ?_
   simp only [zz]
   refine wR (v := .int .i64 (n : Int)) (w' := w1) rfl (by rw [HN.out]; exact exec_slen rfl rfl) ?_
   simp only [zz]
   by_cases h2 : n ≤ s
   ·have HE := zH (show decide (1 ≤ n ∧ n ≤ s) = true from decide_eq_true ⟨h1, h2⟩)
    have y5 : (n : Int) ≤ (s : Int) := by omega
    clear h1 h2
    go_wp2_with (go_at_call 76; refine (all_walk t _ HL.out).mono ?_; rintro e w2 ⟨rfl, rfl⟩)
    go_ret
    rw [HD.out, HE.out]
    exact ⟨by simp, HT1.out⟩
   ·have HE := zH (show decide (1 ≤ n ∧ n ≤ s) = false from decide_eq_false (by omega))
    have y5 : ¬ ((n : Int) ≤ (s : Int)) := by omega
    clear h1 h2
    go_wp2_with fail
    go_ret
    rw [HD.out, HE.out]
    exact ⟨by simp, HT1.out⟩
  ·have HE := zH (show decide (1 ≤ n ∧ n ≤ s) = false from decide_eq_false (by omega))
   have y5 : ¬ (1 ≤ (n : Int)) := by omega
   clear h1
   go_wp2_with fail
   go_ret
   rw [HD.out, HE.out]
   exact ⟨by simp, HT1.out⟩
 ·have HD := zH (show Fm.right ⟨3, (s : Int), c⟩ t = (decide (n = s) && onlyOf t sgn) from by rw [HN.out]; exact right_an)
  go_upto_region 9 with fail
  go_wp2_with fail
  go_loopg [5] n (fun gk i wr => ∃ k : Nat, k + gk = n ∧ i = .int .i64 (k : Int) ∧ wr = w1 ∧ onlyOf (t.take k) sgn = true)
  case atStart => exact ⟨0, by omega, rfl, rfl, rfl⟩
  obtain ⟨k, hkl, rfl, rfl, hin⟩ := hrel
  have HKL := zH hkl
  have HIN := zH hin
  clear hkl hin
  go_upto_region 10 with fail
  refine wp_region_lit ?_
  refine wM (.int .i64 (k : Int)) ?_
  simp only [zz]
  refine wM (strV t) ?_
  simp only [zz]
  refine wR (v := .int .i64 (n : Int)) (w' := wr) rfl (by rw [HN.out]; exact exec_slen rfl rfl) ?_
  simp only [zz]
  by_cases hlt : k < n
  ·have y1 : (k : Int) < (n : Int) := by omega
   have y3 : (n : Int) ≤ 9223372036854775807 := by have := HN.out; have := HL.out; omega
   go_upto_region 12 with fail
   refine wp_region_lit ?_
   refine wM (strV t) ?_
   simp only [zz]
   refine wM (.int .i64 (k : Int)) ?_
   simp only [zz]
   refine wR (v := .int .u8 ((t.getD k 0).toNat : Int)) (w' := wr) rfl (exec_sidx rfl rfl rfl (by rw [← HN.out]; exact hlt)) ?_
   simp only [zz]
   have HLT := zH hlt
   clear hlt
   have hd := sign_walk (t.getD k 0) wr
   have hp : sgn.contains (t.getD k 0) = false → onlyOf t sgn = false := only_part (by rw [← HN.out]; exact HLT.out)
   have hs : sgn.contains (t.getD k 0) = true → onlyOf (t.take (k + 1)) sgn = true := only_step (by rw [← HN.out]; exact HLT.out) HIN.out
   have HP := zH hp
   have HSS := zH hs
   clear hp hs HIN
   generalize t.getD k 0 = b at *
   cases hq : sgn.contains b with
   | true =>
     rw [hq] at hd
     have HIN := zH (HSS.out hq)
     go_wp2_with (go_at_call 77; refine hd.mono ?_; rintro e w2 ⟨rfl, rfl⟩)
     go_roundg (gk - 1)
     case measure => have := HKL.out; have := HLT.out; omega
     case rel => exact ⟨k + 1, by have := HKL.out; have := HLT.out; omega, by go_num, rfl, HIN.out⟩
   | false =>
     rw [hq] at hd
     have HIN := zH (HP.out hq)
     go_wp2_with (go_at_call 77; refine hd.mono ?_; rintro e w2 ⟨rfl, rfl⟩)
     go_ret
     rw [HD.out, HIN.out, Bool.and_false]
     exact ⟨rfl, HT1.out⟩
  ·have hke : k = n := by have := HKL.out; omega
   have y1 : ¬ ((k : Int) < (n : Int)) := by omega
   have HALL := zH (show onlyOf t sgn = true by
    have := HIN.out
    rwa [List.take_of_length_le (by rw [← HN.out]; omega)] at this)
   clear hlt hke
   go_upto_region 14 with fail
   refine wp_region_lit ?_
   refine wM (strV t) ?_
   simp only [zz]
   refine wR (v := .int .i64 (n : Int)) (w' := wr) rfl (by rw [HN.out]; exact exec_slen rfl rfl) ?_
   simp only [zz]
   refine wR (v := .pointer (some ⟨b2, 1, none⟩)) (w' := wr) rfl (by go_simp) ?_
   simp only [zz]
   refine wR (v := .int .i64 (s : Int)) rfl (exec_load1 rfl rfl (by kernel_rfl) c1) ?_
   simp only [zz]
   by_cases he : n = s
   ·have HE := zH (show decide (n = s) = true from decide_eq_true he)
    refine wR (v := .bool true) (w' := wr) rfl (by go_simp <;> omega) ?_
    simp only [zz]
    clear he
    go_wp2_with fail
    go_ret
    rw [HD.out, HALL.out, HE.out]
    exact ⟨rfl, HT1.out⟩
   ·have HE := zH (show decide (n = s) = false from decide_eq_false he)
    refine wR (v := .bool false) (w' := wr) rfl (by go_simp <;> omega) ?_
    simp only [zz]
    clear he
    go_wp2_with fail
    go_ret
    rw [HD.out, HE.out, Bool.false_and]
    exact ⟨rfl, HT1.out⟩
 ·have HD := zH (show Fm.right ⟨4, (s : Int), c⟩ t = (decide (n = 2 * s) && onlyOf t hexs) from by rw [HN.out]; exact right_b)
  go_upto_region 15 with fail
  go_wp2_with fail
  go_loopg [6] n (fun gk i wr => ∃ k : Nat, k + gk = n ∧ i = .int .i64 (k : Int) ∧ wr = w1 ∧ onlyOf (t.take k) hexs = true)
  case atStart => exact ⟨0, by omega, rfl, rfl, rfl⟩
  obtain ⟨k, hkl, rfl, rfl, hin⟩ := hrel
  have HKL := zH hkl
  have HIN := zH hin
  clear hkl hin
  go_upto_region 16 with fail
  refine wp_region_lit ?_
  refine wM (.int .i64 (k : Int)) ?_
  simp only [zz]
  refine wM (strV t) ?_
  simp only [zz]
  refine wR (v := .int .i64 (n : Int)) (w' := wr) rfl (by rw [HN.out]; exact exec_slen rfl rfl) ?_
  simp only [zz]
  by_cases hlt : k < n
  ·have y1 : (k : Int) < (n : Int) := by omega
   have y3 : (n : Int) ≤ 9223372036854775807 := by have := HN.out; have := HL.out; omega
   go_upto_region 18 with fail
   refine wp_region_lit ?_
   refine wM (strV t) ?_
   simp only [zz]
   refine wM (.int .i64 (k : Int)) ?_
   simp only [zz]
   refine wR (v := .int .u8 ((t.getD k 0).toNat : Int)) (w' := wr) rfl (exec_sidx rfl rfl rfl (by rw [← HN.out]; exact hlt)) ?_
   simp only [zz]
   have HLT := zH hlt
   clear hlt
   have hd := hex_walk (t.getD k 0) wr
   have hp : hexs.contains (t.getD k 0) = false → onlyOf t hexs = false := only_part (by rw [← HN.out]; exact HLT.out)
   have hs : hexs.contains (t.getD k 0) = true → onlyOf (t.take (k + 1)) hexs = true := only_step (by rw [← HN.out]; exact HLT.out) HIN.out
   have HP := zH hp
   have HSS := zH hs
   clear hp hs HIN
   generalize t.getD k 0 = b at *
   cases hq : hexs.contains b with
   | true =>
     rw [hq] at hd
     have HIN := zH (HSS.out hq)
     go_wp2_with (go_at_call 78; refine hd.mono ?_; rintro e w2 ⟨rfl, rfl⟩)
     go_roundg (gk - 1)
     case measure => have := HKL.out; have := HLT.out; omega
     case rel => exact ⟨k + 1, by have := HKL.out; have := HLT.out; omega, by go_num, rfl, HIN.out⟩
   | false =>
     rw [hq] at hd
     have HIN := zH (HP.out hq)
     go_wp2_with (go_at_call 78; refine hd.mono ?_; rintro e w2 ⟨rfl, rfl⟩)
     go_ret
     rw [HD.out, HIN.out, Bool.and_false]
     exact ⟨rfl, HT1.out⟩
  ·have hke : k = n := by have := HKL.out; omega
   have y1 : ¬ ((k : Int) < (n : Int)) := by omega
   have HALL := zH (show onlyOf t hexs = true by
    have := HIN.out
    rwa [List.take_of_length_le (by rw [← HN.out]; omega)] at this)
   clear hlt hke
   go_upto_region 20 with fail
   refine wp_region_lit ?_
   refine wM (strV t) ?_
   simp only [zz]
   refine wR (v := .int .i64 (n : Int)) (w' := wr) rfl (by rw [HN.out]; exact exec_slen rfl rfl) ?_
   simp only [zz]
   refine wR (v := .pointer (some ⟨b2, 1, none⟩)) (w' := wr) rfl (by go_simp) ?_
   simp only [zz]
   refine wR (v := .int .i64 (s : Int)) rfl (exec_load1 rfl rfl (by kernel_rfl) c1) ?_
   simp only [zz]
   refine wR (v := .int .i64 ((2 * s : Nat) : Int)) (w' := wr) rfl (by have := HS.out; go_simp; rw [wrap_small (by omega) (by omega)]; try omega) ?_
   simp only [zz]
   by_cases he : n = 2 * s
   ·have HE := zH (show decide (n = 2 * s) = true from decide_eq_true he)
    refine wR (v := .bool true) (w' := wr) rfl (by go_simp <;> omega) ?_
    simp only [zz]
    clear he
    go_wp2_with fail
    go_ret
    rw [HD.out, HALL.out, HE.out]
    exact ⟨rfl, HT1.out⟩
   ·have HE := zH (show decide (n = 2 * s) = false from decide_eq_false he)
    refine wR (v := .bool false) (w' := wr) rfl (by go_simp <;> omega) ?_
    simp only [zz]
    clear he
    go_wp2_with fail
    go_ret
    rw [HD.out, HE.out, Bool.false_and]
    exact ⟨rfl, HT1.out⟩
 ·have HD := zH (show Fm.right ⟨5, (s : Int), c⟩ t = (decide (n = s + 1) && (mk.contains (t.getD 0 0) && onlyOf (t.drop 1) dec)) from by rw [HN.out]; exact right_x)
  go_upto_region 7 with fail
  refine wp_region_lit ?_
  refine wM (strV t) ?_
  simp only [zz]
  refine wR (v := .int .i64 (n : Int)) (w' := w1) rfl (by rw [HN.out]; exact exec_slen rfl rfl) ?_
  simp only [zz]
  refine wR (v := .pointer (some ⟨b2, 1, none⟩)) (w' := w1) rfl (by go_simp) ?_
  simp only [zz]
  refine wR (v := .int .i64 (s : Int)) rfl (exec_load1 rfl rfl (by kernel_rfl) c1) ?_
  simp only [zz]
  refine wR (v := .int .i64 ((s + 1 : Nat) : Int)) (w' := w1) rfl (by have := HS.out; go_simp; rw [wrap_small (by omega) (by omega)]; try omega) ?_
  simp only [zz]
  by_cases he : n = s + 1
  ·have HE := zH (show decide (n = s + 1) = true from decide_eq_true he)
   refine wR (v := .bool true) (w' := w1) rfl (by go_simp <;> omega) ?_
   simp only [zz]
   refine wM (.bool true) ?_
   simp only [zz]
   refine wM (strV t) ?_
   simp only [zz]
   refine wR (v := .int .u8 ((t.getD 0 0).toNat : Int)) (w' := w1) rfl (exec_sidx rfl rfl rfl (by rw [← HN.out]; omega)) ?_
   simp only [zz]
   have HN1 := zH (show 1 ≤ t.length by rw [← HN.out]; omega)
   clear he
   have hm := mk_byte (t.getD 0 0)
   obtain ⟨b, hbe⟩ : ∃ b, b = t.getD 0 0 := ⟨_, rfl⟩
   rw [← hbe] at hm HD ⊢
   have HBE := zH hbe
   clear hbe
   have HM := zH hm
   clear hm
   have hx : ∀ W : World, Calls Tryz.prog 76 #[strV (t.drop 1)] W fun e w' => e = .returned (.bool (onlyOf (t.drop 1) dec)) ∧ w' = W := fun W => all_walk (t.drop 1) W (by have := HL.out; simp; omega)
   obtain ⟨td, htd⟩ : ∃ td, td = t.drop 1 := ⟨_, rfl⟩
   rw [← htd] at hx HD
   have HTD := zH htd
   have HX := zH hx
   clear hx htd
   generalize hq : onlyOf td dec = q at *
   clear hq
   by_cases h7 : b.toNat = 67
   ·have HM2 := zH (show mk.contains b = true from by rw [HM.out, decide_eq_true h7]; rfl)
    refine wR (v := .bool true) (w' := w1) rfl (by go_simp <;> omega) ?_
    simp only [zz]
    refine wM (.bool true) ?_
    simp only [zz]
    refine wpList_skip rfl ?_
    simp only [zz]
    refine wpList_skip rfl ?_
    simp only [zz]
    refine wpList_skip rfl ?_
    simp only [zz]
    refine wR (v := .bool true) (w' := w1) rfl (by go_simp) ?_
    simp only [zz]
    refine wR (v := .bool true) (w' := w1) rfl (by go_simp) ?_
    simp only [zz]
    refine wM (.bool true) ?_
    simp only [zz]
    refine wM (strV t) ?_
    simp only [zz]
    refine wR (v := strV td) (w' := w1) rfl (by rw [HTD.out]; exact exec_sfrom (n := 1) rfl rfl rfl HN1.out) ?_
    simp only [zz]
    go_wp2_with (go_at_call 76; refine (HX.out _).mono ?_; rintro e w2 ⟨rfl, rfl⟩)
    go_ret
    rw [HD.out, HE.out, HM2.out]
    exact ⟨by simp, HT1.out⟩
   ·by_cases h8 : b.toNat = 68
    ·have HM2 := zH (show mk.contains b = true from by rw [HM.out, decide_eq_true h8, Bool.or_true])
     refine wR (v := .bool false) (w' := w1) rfl (by go_simp <;> omega) ?_
     simp only [zz]
     refine wM (.bool false) ?_
     simp only [zz]
     refine wM (strV t) ?_
     simp only [zz]
     refine wR (v := .int .u8 (b.toNat : Int)) (w' := w1) rfl (by rw [HBE.out]; exact exec_sidx rfl rfl rfl (by have := HN1.out; omega)) ?_
     simp only [zz]
     refine wR (v := .bool true) (w' := w1) rfl (by go_simp <;> omega) ?_
     simp only [zz]
     refine wR (v := .bool true) (w' := w1) rfl (by go_simp) ?_
     simp only [zz]
     refine wR (v := .bool true) (w' := w1) rfl (by go_simp) ?_
     simp only [zz]
     refine wM (.bool true) ?_
     simp only [zz]
     refine wM (strV t) ?_
     simp only [zz]
     refine wR (v := strV td) (w' := w1) rfl (by rw [HTD.out]; exact exec_sfrom (n := 1) rfl rfl rfl HN1.out) ?_
     simp only [zz]
     go_wp2_with (go_at_call 76; refine (HX.out _).mono ?_; rintro e w2 ⟨rfl, rfl⟩)
     go_ret
     rw [HD.out, HE.out, HM2.out]
     exact ⟨by simp, HT1.out⟩
    ·have HM2 := zH (show mk.contains b = false from by rw [HM.out]; simp only [decide_eq_false h7, decide_eq_false h8]; rfl)
     refine wR (v := .bool false) (w' := w1) rfl (by go_simp <;> omega) ?_
     simp only [zz]
     refine wM (.bool false) ?_
     simp only [zz]
     refine wM (strV t) ?_
     simp only [zz]
     refine wR (v := .int .u8 (b.toNat : Int)) (w' := w1) rfl (by rw [HBE.out]; exact exec_sidx rfl rfl rfl (by have := HN1.out; omega)) ?_
     simp only [zz]
     refine wR (v := .bool false) (w' := w1) rfl (by go_simp <;> omega) ?_
     simp only [zz]
     go_wp2_with fail
     go_ret
     rw [HD.out, HM2.out, Bool.false_and, Bool.and_false]
     exact ⟨rfl, HT1.out⟩
  ·have HE := zH (show decide (n = s + 1) = false from decide_eq_false he)
   have y5 : ¬ ((n : Int) = ((s + 1 : Nat) : Int)) := by omega
   clear he
   go_wp2_with fail
   go_ret
   rw [HD.out, HE.out]
   exact ⟨by simp, HT1.out⟩
theorem turn_below {w w1 w2 : World} (h : Turn nowhere w w1) (g : Below w.heap.size w1 w2) : Turn nowhere w w2 :=
 ⟨g.os.trans h.os, g.tape.trans h.tape, g.output.trans h.output, Nat.le_trans h.size g.size, fun k hk hn => (g.block k hk).trans (h.block k hk hn)⟩
theorem exec_make0 {a : Act} {o : Oper} {W : World} (ho : o.op = .buildSlice 26 0 #[]) : (execOp a.eval o).run Tryz.prog W = .ok (.value (.slice (some ⟨W.heap.size, 0, none⟩) 0 0)) (W.alloc (.cells #[] 5)) := by
 unfold execOp
 simp only [ho]
 kernel_rfl
theorem exec_ext {P : Program} {a : Act} {o : Oper} {x : Operand} {i : Nat} {xs : Array Value} {v : Value} {W : World} (ho : o.op = .extract x i) (hx : a.eval x = .tuple xs) (hv : xs[i]? = some v) : (execOp a.eval o).run P W = .ok (.value v) W := by
 unfold execOp
 simp [ho, hx, Instr.extract, hv]
theorem exec_bto {a : Act} {o : Oper} {x y : Operand} {A : Option Addr} {n c k : Nat} {W : World} (ho : o.op = .slice 26 x none (some y) none) (hx : a.eval x = .slice A n c) (hy : a.eval y = .int .i64 (k : Int)) (hk : k ≤ c) : (execOp a.eval o).run Tryz.prog W = .ok (.value (.slice A k c)) W := by
 have h := run_slice_h (P := Tryz.prog) (w := W) 26 A n c Tryz.underlying26 .i64 (k : Int) (by omega) (by omega)
 have hs : (sizeOf (Tryz.prog.elem 26)).run Tryz.prog W = .ok 1 W := by kernel_rfl
 rw [Int.toNat_natCast, hs] at h
 unfold execOp
 simp only [ho, Option.map, hx, hy, run_sliceAt_slice (P := Tryz.prog) W 26 _ _ _ _ Tryz.underlying26, h, Sem.run_bind, Sem.run_pure, Result.andThen_ok]
 cases A <;> simp [sliced, Addr.add]
theorem bs_take {W : World} {A : Option Addr} {n i : Nat} {l : List UInt8} (h : Bs W A n l) (hi : i ≤ n) : Bs W A i (l.take i) := by
 obtain ⟨h1, h2, h3⟩ := h
 refine ⟨by rw [List.length_take]; omega, Nat.le_trans hi h2, fun h0 => ?_⟩
 obtain ⟨b, off, rfl, hc⟩ := h3 (by omega)
 refine ⟨b, off, rfl, fun j hj => ?_⟩
 rw [hc j (by omega)]
 have : (l.take i).getD j 0 = l.getD j 0 := by
  simp only [List.getD_eq_getElem?_getD, List.getElem?_take]
  rw [if_pos hj]
 rw [this]
end Go.Proofs.YticofobhkmabiaaGreatDoor
namespace Go.Proofs.YticofobhkmabiaaGreatDoor.Fdd
def ebc (c : UInt8) : UInt8 := if dec.contains c then c + 192 else if 65 ≤ c.toNat ∧ c.toNat ≤ 73 then c + 128 else if 74 ≤ c.toNat ∧ c.toNat ≤ 82 then c + 135 else if 83 ≤ c.toNat ∧ c.toNat ≤ 90 then c + 143 else 64
def vOf (c : UInt8) : Nat := if dec.contains c then c.toNat - 48 else c.toNat - 87
def upc (c : UInt8) : UInt8 := if 97 ≤ c.toNat then c - 32 else c
def rpack : List UInt8 → List UInt8
 | a :: b :: r => UInt8.ofNat (16 * vOf a + vOf b) :: rpack r
 | _ => []
def rsigns (code : Int) (t : List UInt8) : List UInt8 := if code = 3 then t.map ebc else t
def rdigits (code : Int) (t : List UInt8) : List UInt8 := if code = 2 then rpack (padded t) else rsigns code t
def rbytes (f : Fm) (t : List UInt8) : List UInt8 :=
 if f.kind = 1 then rdigits f.code t else if f.kind = 2 then rdigits f.code (two t.length) ++ rdigits f.code t else
 if f.kind = 5 then rsigns f.code (t.take 1) ++ rdigits f.code (t.drop 1) else if f.kind = 3 then rsigns f.code t else
 if f.code ≠ 1 then rpack (padded t) else t.map upc
theorem ebc_dec : ∀ c ∈ dec, one dec eDec c = ebc c := by decide +kernel
theorem ebc_sgn : ∀ c ∈ sgn, one sgn eSgn c = ebc c := by decide +kernel
theorem ebc_mk : ∀ c ∈ mk, one mk eMk c = ebc c := by decide +kernel
theorem id_dec : ∀ c ∈ dec, one dec dec c = c := by decide +kernel
theorem id_sgn : ∀ c ∈ sgn, one sgn sgn c = c := by decide +kernel
theorem id_mk : ∀ c ∈ mk, one mk mk c = c := by decide +kernel
theorem up_hex : ∀ c ∈ hexs, one hexs hexU c = upc c := by decide +kernel
theorem v_hex : ∀ c ∈ hexs, hexs.idxOf c = vOf c := by decide +kernel
theorem v_dec : ∀ c ∈ dec, dec.idxOf c = vOf c := by decide +kernel
theorem rpack_of {ch : List UInt8} (h : ∀ c ∈ ch, ch.idxOf c = vOf c) : ∀ t : List UInt8, (∀ c ∈ t, c ∈ ch) → rpack t = pack ch t
 | [], _ => rfl
 | [_], _ => rfl
 | a :: b :: r, ht => by
   have ha := h a (ht a (List.mem_cons_self ..))
   have hb := h b (ht b (List.mem_cons_of_mem _ (List.mem_cons_self ..)))
   have hr := rpack_of h r fun c hc => ht c (List.mem_cons_of_mem _ (List.mem_cons_of_mem _ hc))
   unfold rpack pack
   rw [ha, hb, hr]
theorem padded_in {ch t : List UInt8} (h0 : (48 : UInt8) ∈ ch) (ht : ∀ c ∈ t, c ∈ ch) : ∀ c ∈ padded t, c ∈ ch := by
 unfold padded
 split
 ·intro c hc
  rcases List.mem_cons.1 hc with rfl | hc
  ·exact h0
  ·exact ht c hc
 ·exact ht
theorem only_in {l cs : List UInt8} (h : onlyOf l cs = true) : ∀ c ∈ l, c ∈ cs := fun _ hc => onlyOf_mem h hc
theorem map_in {f g : UInt8 → UInt8} {cs : List UInt8} (h : ∀ c ∈ cs, f c = g c) {t : List UInt8} (ht : onlyOf t cs = true) : t.map f = t.map g :=
 List.map_congr_left fun c hc => h c (onlyOf_mem ht hc)
theorem enc_dig {n : Nat} {c : Nat} (hc : 1 ≤ c ∧ c ≤ 3) {t : List UInt8} (ht : onlyOf t dec = true) : (⟨n, dec, (rws c).d⟩ : Pt).enc t = rdigits (c : Int) t := by
 have hcc : c = 1 ∨ c = 2 ∨ c = 3 := by omega
 rcases hcc with rfl | rfl | rfl
 ·show t.map (one dec dec) = t
  rw [map_in id_dec ht, List.map_id' t]
 ·show pack dec (padded t) = rpack (padded t)
  exact (rpack_of v_dec _ (padded_in (by decide) (only_in ht))).symm
 ·exact map_in ebc_dec ht
theorem enc_sgn {n : Nat} {c : Nat} (hc : 1 ≤ c ∧ c ≤ 3) {t : List UInt8} (ht : onlyOf t sgn = true) : (⟨n, sgn, (rws c).s⟩ : Pt).enc t = rsigns (c : Int) t := by
 have hcc : c = 1 ∨ c = 2 ∨ c = 3 := by omega
 rcases hcc with rfl | rfl | rfl
 ·show t.map (one sgn sgn) = t
  rw [map_in id_sgn ht, List.map_id' t]
 ·show t.map (one sgn sgn) = t
  rw [map_in id_sgn ht, List.map_id' t]
 ·exact map_in ebc_sgn ht
theorem enc_mk {n : Nat} {c : Nat} (hc : 1 ≤ c ∧ c ≤ 3) {t : List UInt8} (ht : onlyOf t mk = true) : (⟨n, mk, (rws c).m⟩ : Pt).enc t = rsigns (c : Int) t := by
 have hcc : c = 1 ∨ c = 2 ∨ c = 3 := by omega
 rcases hcc with rfl | rfl | rfl
 ·show t.map (one mk mk) = t
  rw [map_in id_mk ht, List.map_id' t]
 ·show t.map (one mk mk) = t
  rw [map_in id_mk ht, List.map_id' t]
 ·exact map_in ebc_mk ht
theorem enc_hex {n : Nat} {c : Nat} (hc : 1 ≤ c ∧ c ≤ 3) {t : List UInt8} (ht : onlyOf t hexs = true) : (⟨n, hexs, (rws c).h⟩ : Pt).enc t = if (c : Int) ≠ 1 then rpack (padded t) else t.map upc := by
 have hcc : c = 1 ∨ c = 2 ∨ c = 3 := by omega
 rcases hcc with rfl | rfl | rfl
 ·exact map_in up_hex ht
 ·show pack hexs (padded t) = rpack (padded t)
  exact (rpack_of v_hex _ (padded_in (by decide) (only_in ht))).symm
 ·show pack hexs (padded t) = rpack (padded t)
  exact (rpack_of v_hex _ (padded_in (by decide) (only_in ht))).symm
theorem right_one {p : Pt} {t : List UInt8} (h : rightAll [p] t = true) : onlyOf t p.chars = true ∧ t.length = p.n := by
 unfold rightAll rightAll at h
 simp only [Bool.and_eq_true, decide_eq_true_eq, beq_iff_eq, List.drop_eq_nil_iff] at h
 obtain ⟨h1, h2, h3⟩ := h
 rw [List.take_of_length_le h3] at h2
 exact ⟨h2, by omega⟩
theorem enc_one {p : Pt} {t : List UInt8} (h : t.length = p.n) : encAll [p] t = p.enc t := by
 unfold encAll encAll
 rw [List.append_nil, List.take_of_length_le (by omega)]
theorem right_two {p q : Pt} {t : List UInt8} (h : rightAll [p, q] t = true) : p.n ≤ t.length ∧ onlyOf (t.take p.n) p.chars = true ∧ rightAll [q] (t.drop p.n) = true := by
 unfold rightAll at h
 simp only [Bool.and_eq_true, decide_eq_true_eq] at h
 exact h
theorem rbytes_put {k s c : Nat} {t : List UInt8} (hk : 1 ≤ k ∧ k ≤ 5) (hc : 1 ≤ c ∧ c ≤ 3) (hs : 1 ≤ s ∧ s ≤ 64) (hr : (nf k s c).right t = true) : rbytes (nf k s c) t = (nf k s c).put t := by
 have hkk : k = 1 ∨ k = 2 ∨ k = 3 ∨ k = 4 ∨ k = 5 := by omega
 have hcn : (c : Int).toNat = c := Int.toNat_natCast c
 rcases hkk with rfl | rfl | rfl | rfl | rfl
 ·rw [right_nl (by decide)] at hr
  rw [put_nl (by decide)]
  have e : ptsOf ((1 : Nat) : Int) (c : Int) s = [⟨s, dec, (rws c).d⟩] := by
   show [(⟨s, dec, (rws (c : Int).toNat).d⟩ : Pt)] = _
   rw [hcn]
  rw [e] at hr ⊢
  obtain ⟨h1, h2⟩ := right_one hr
  rw [enc_one h2, enc_dig hc h1]
  rfl
 ·obtain ⟨hl, hr2⟩ := ll_right hr
  rw [put_ll]
  have e1 : ptsOf 1 (c : Int) 2 = [⟨2, dec, (rws c).d⟩] := by
   show [(⟨2, dec, (rws (c : Int).toNat).d⟩ : Pt)] = _
   rw [hcn]
  have e2 : ptsOf 2 (c : Int) t.length = [⟨t.length, dec, (rws c).d⟩] := by
   show [(⟨t.length, dec, (rws (c : Int).toNat).d⟩ : Pt)] = _
   rw [hcn]
  rw [e2] at hr2
  rw [e1, e2]
  obtain ⟨h1, h2⟩ := right_one hr2
  rw [enc_one h2, enc_one (two_len _), enc_dig hc h1, enc_dig hc (two_ok (show t.length ≤ 99 by omega)).2]
  rfl
 ·rw [right_nl (by decide)] at hr
  rw [put_nl (by decide)]
  have e : ptsOf ((3 : Nat) : Int) (c : Int) s = [⟨s, sgn, (rws c).s⟩] := by
   show [(⟨s, sgn, (rws (c : Int).toNat).s⟩ : Pt)] = _
   rw [hcn]
  rw [e] at hr ⊢
  obtain ⟨h1, h2⟩ := right_one hr
  rw [enc_one h2, enc_sgn hc h1]
  rfl
 ·rw [right_nl (by decide)] at hr
  rw [put_nl (by decide)]
  have e : ptsOf ((4 : Nat) : Int) (c : Int) s = [⟨2 * s, hexs, (rws c).h⟩] := by
   show [(⟨2 * s, hexs, (rws (c : Int).toNat).h⟩ : Pt)] = _
   rw [hcn]
  rw [e] at hr ⊢
  obtain ⟨h1, h2⟩ := right_one hr
  rw [enc_one h2, enc_hex hc h1]
  rfl
 ·rw [right_nl (by decide)] at hr
  rw [put_nl (by decide)]
  have e : ptsOf ((5 : Nat) : Int) (c : Int) s = [⟨1, mk, (rws c).m⟩, ⟨s, dec, (rws c).d⟩] := by
   show [(⟨1, mk, (rws (c : Int).toNat).m⟩ : Pt), ⟨s, dec, (rws (c : Int).toNat).d⟩] = _
   rw [hcn]
  rw [e] at hr ⊢
  obtain ⟨h1, h2, h3⟩ := right_two hr
  obtain ⟨h4, h5⟩ := right_one h3
  have e2 : encAll [⟨1, mk, (rws c).m⟩, ⟨s, dec, (rws c).d⟩] t = (⟨1, mk, (rws c).m⟩ : Pt).enc (t.take 1) ++ encAll [⟨s, dec, (rws c).d⟩] (t.drop 1) := rfl
  rw [e2, enc_one h5, enc_mk hc h2, enc_dig hc h4]
  rfl
def unebc (c : UInt8) : UInt8 := (List.range 128).foldl (fun f s => if sgn.contains (UInt8.ofNat s) && ebc (UInt8.ofNat s) == c then UInt8.ofNat s else f) 0
def rraw (f : Fm) (i : Nat) : Bool := (decide (f.code = 2) && (decide (f.kind = 1) || decide (f.kind = 2) || (decide (f.kind = 5) && decide (0 < i)))) || (decide (f.kind = 4) && !decide (f.code = 1))
def downc (c : UInt8) : UInt8 := if 65 ≤ c.toNat ∧ c.toNat ≤ 70 then c + 32 else c
def rch (f : Fm) (i : Nat) (c : UInt8) : List UInt8 :=
 if rraw f i = true then [hexs.getD (c.toNat / 16) 0, hexs.getD (c.toNat % 16) 0] else
 if f.code = 3 ∧ f.kind ≠ 4 then [unebc c] else if f.kind = 4 then [downc c] else [c]
def rchars (f : Fm) : Nat → List UInt8 → List UInt8
 | _, [] => []
 | i, c :: r => rch f i c ++ rchars f (i + 1) r
def rfix1 (f : Fm) (n : Nat) (s : List UInt8) : List UInt8 := if f.code = 2 ∧ (f.kind = 1 ∨ f.kind = 2) ∧ s.length = n + 1 then s.drop 1 else s
def rfix2 (f : Fm) (s : List UInt8) : List UInt8 := if f.code = 2 ∧ f.kind = 5 ∧ (s.length : Int) = f.size + 2 then s.take 1 ++ s.drop 2 else s
def rfix (f : Fm) (n : Nat) (s : List UInt8) : List UInt8 := rfix2 f (rfix1 f n s)
def rlast (f : Fm) (w b : List UInt8) : List UInt8 := if f.kind = 2 then w.drop (w.length - b.length) else w
def rtext (f : Fm) (b : List UInt8) (n : Nat) : List UInt8 × Bool :=
 let s := rfix f n (rchars f 0 b)
 if f.right s = true then (s, (rlast f (rbytes f s) b == b) && (decide (f.kind ≠ 2) || decide (s.length = n))) else ([], false)
theorem unebc_sgn : ∀ c ∈ sgn, unebc (ebc c) = c := by decide +kernel
theorem dec_sgn : ∀ c ∈ dec, c ∈ sgn := by decide +kernel
theorem mk_sgn : ∀ c ∈ mk, c ∈ sgn := by decide +kernel
theorem dec_hex : ∀ c ∈ dec, c ∈ hexs := by decide +kernel
theorem down_up : ∀ c ∈ hexs, downc (upc c) = c := by decide +kernel
theorem rchars_plain {f : Fm} {g h : UInt8 → UInt8} : ∀ (i : Nat) (t : List UInt8), (∀ j, i ≤ j → ∀ c, rch f j c = [g c]) → (∀ c ∈ t, g (h c) = c) → rchars f i (t.map h) = t
 | _, [], _, _ => rfl
 | i, c :: r, h1, h2 => by
   show rch f i (h c) ++ rchars f (i + 1) (r.map h) = c :: r
   rw [h1 i (Nat.le_refl _), h2 c (List.mem_cons_self ..), rchars_plain (i + 1) r (fun j hj => h1 j (by omega)) fun c hc => h2 c (List.mem_cons_of_mem _ hc)]
   rfl
theorem rchars_raw {f : Fm} : ∀ (b : List UInt8) (i : Nat), (∀ j, i ≤ j → rraw f j = true) → rchars f i b = unpack hexs b
 | [], _, _ => rfl
 | x :: r, i, h => by
   show rch f i x ++ rchars f (i + 1) r = _
   rw [rchars_raw r (i + 1) fun j hj => h j (by omega)]
   unfold rch
   rw [if_pos (h i (Nat.le_refl _))]
   rfl
theorem unpack_rpack {T : List UInt8} (h2 : T.length % 2 = 0) (ht : ∀ c ∈ T, c ∈ hexs) : unpack hexs (rpack T) = T := by
 rw [rpack_of v_hex T ht]
 exact (unpack_pack (by decide) T h2 ht).1
theorem padded_cut (t : List UInt8) : (if (padded t).length = t.length + 1 then (padded t).drop 1 else padded t) = t := by
 unfold padded
 split
 ·rw [if_pos (by simp)]
  rfl
 ·rw [if_neg (by omega)]
theorem dig_chars {f : Fm} {c : Nat} {t : List UInt8} (hf : f.code = (c : Int)) (hk : f.kind = 1 ∨ f.kind = 2) (hc : 1 ≤ c ∧ c ≤ 3) (ht : onlyOf t dec = true) : rfix f t.length (rchars f 0 (rdigits (c : Int) t)) = t := by
 have hf2 : ∀ s, rfix2 f s = s := fun s => by
  unfold rfix2
  rw [if_neg (by omega)]
 unfold rfix
 rw [hf2]
 have hcc : c = 1 ∨ c = 2 ∨ c = 3 := by omega
 rcases hcc with rfl | rfl | rfl
 ·have hr : ∀ j c, rch f j c = [id c] := fun j c => by
   unfold rch rraw
   rw [hf]
   rcases hk with hk | hk <;> rw [hk] <;> simp
  have := rchars_plain (h := id) 0 t (fun j _ c => hr j c) fun c _ => rfl
  rw [List.map_id] at this
  show rfix1 f t.length (rchars f 0 t) = t
  rw [this]
  unfold rfix1
  rw [if_neg (by omega)]
 ·show rfix1 f t.length (rchars f 0 (rpack (padded t))) = t
  rw [rchars_raw _ 0 (fun j _ => by unfold rraw; rw [hf]; rcases hk with hk | hk <;> rw [hk] <;> simp), unpack_rpack (padded_two t).1 (padded_in (by decide) fun c hc => dec_hex c (only_in ht c hc))]
  unfold rfix1
  have := padded_cut t
  by_cases e : (padded t).length = t.length + 1
  ·rw [if_pos e] at this
   rw [if_pos ⟨hf, hk, e⟩, this]
  ·rw [if_neg e] at this
   rw [if_neg (by omega), this]
 ·have hr : ∀ j c, rch f j c = [unebc c] := fun j c => by
   unfold rch rraw
   rw [hf]
   rcases hk with hk | hk <;> rw [hk] <;> simp
  have := rchars_plain (h := ebc) 0 t (fun j _ c => hr j c) fun c hc => unebc_sgn c (dec_sgn c (only_in ht c hc))
  show rfix1 f t.length (rchars f 0 (t.map ebc)) = t
  rw [this]
  unfold rfix1
  rw [if_neg (by omega)]
theorem sgn_chars {s c n : Nat} {t : List UInt8} (hc : 1 ≤ c ∧ c ≤ 3) (ht : onlyOf t sgn = true) : rfix (nf 3 s c) n (rchars (nf 3 s c) 0 (rsigns (c : Int) t)) = t := by
 have hfx : ∀ x, rfix (nf 3 s c) n x = x := fun x => by
  unfold rfix rfix2 rfix1 nf
  simp
 rw [hfx]
 have hcc : c = 1 ∨ c = 2 ∨ c = 3 := by omega
 rcases hcc with rfl | rfl | rfl
 ·have := rchars_plain (f := nf 3 s 1) (g := id) (h := id) 0 t (fun j _ c => rfl) fun c _ => rfl
  rwa [List.map_id] at this
 ·have := rchars_plain (f := nf 3 s 2) (g := id) (h := id) 0 t (fun j _ c => rfl) fun c _ => rfl
  rwa [List.map_id] at this
 ·exact rchars_plain (f := nf 3 s 3) (g := unebc) (h := ebc) 0 t (fun j _ c => rfl) fun c hc => unebc_sgn c (only_in ht c hc)
theorem hex_chars {s c n : Nat} {t : List UInt8} (hc : 1 ≤ c ∧ c ≤ 3) (ht : onlyOf t hexs = true) (hl : t.length = 2 * s) : rfix (nf 4 s c) n (rchars (nf 4 s c) 0 (if (c : Int) ≠ 1 then rpack (padded t) else t.map upc)) = t := by
 have hfx : ∀ x, rfix (nf 4 s c) n x = x := fun x => by
  unfold rfix rfix2 rfix1 nf
  simp
 rw [hfx]
 have hp : padded t = t := by
  unfold padded
  rw [if_neg (by omega)]
 have hcc : c = 1 ∨ c = 2 ∨ c = 3 := by omega
 rcases hcc with rfl | rfl | rfl
 ·exact rchars_plain (f := nf 4 s 1) (g := downc) (h := upc) 0 t (fun j _ c => rfl) fun c hc => down_up c (only_in ht c hc)
 ·show rchars (nf 4 s 2) 0 (rpack (padded t)) = t
  rw [rchars_raw _ 0 (fun j _ => rfl), hp, unpack_rpack (by omega) (only_in ht)]
 ·show rchars (nf 4 s 3) 0 (rpack (padded t)) = t
  rw [rchars_raw _ 0 (fun j _ => rfl), hp, unpack_rpack (by omega) (only_in ht)]
theorem mk_chars {s c n : Nat} {m : UInt8} {d : List UInt8} (hc : 1 ≤ c ∧ c ≤ 3) (hm : m ∈ mk) (hd : onlyOf d dec = true) (hl : d.length = s) : rfix (nf 5 s c) n (rchars (nf 5 s c) 0 (rsigns (c : Int) [m] ++ rdigits (c : Int) d)) = m :: d := by
 have hfx : ∀ x, rfix (nf 5 s c) n x = rfix2 (nf 5 s c) x := fun x => by
  unfold rfix rfix1 nf
  simp
 rw [hfx]
 have hcc : c = 1 ∨ c = 2 ∨ c = 3 := by omega
 rcases hcc with rfl | rfl | rfl
 ·have := rchars_plain (f := nf 5 s 1) (g := id) (h := id) 0 (m :: d) (fun j _ c => rfl) fun c _ => rfl
  rw [List.map_id] at this
  show rfix2 (nf 5 s 1) (rchars (nf 5 s 1) 0 (m :: d)) = m :: d
  rw [this]
  unfold rfix2 nf
  simp
 ·show rfix2 (nf 5 s 2) (m :: rchars (nf 5 s 2) 1 (rpack (padded d))) = m :: d
  rw [rchars_raw _ 1 (fun j hj => by unfold rraw nf; simp; omega), unpack_rpack (padded_two d).1 (padded_in (by decide) fun c hc => dec_hex c (only_in hd c hc))]
  have := padded_cut d
  unfold rfix2
  by_cases e : (padded d).length = d.length + 1
  ·rw [if_pos e] at this
   rw [if_pos ⟨rfl, rfl, by show (((m :: padded d).length : Nat) : Int) = (s : Int) + 2; simp; omega⟩]
   show m :: (padded d).drop 1 = _
   rw [this]
  ·rw [if_neg e] at this
   rw [if_neg, this]
   rintro ⟨_, _, h⟩
   replace h : (((m :: padded d).length : Nat) : Int) = (s : Int) + 2 := h
   simp at h
   omega
 ·have := rchars_plain (f := nf 5 s 3) (g := unebc) (h := ebc) 0 (m :: d) (fun j _ c => rfl) fun c hc => unebc_sgn c (by
   rcases List.mem_cons.1 hc with rfl | hc
   ·exact mk_sgn _ hm
   ·exact dec_sgn c (only_in hd c hc))
  show rfix2 (nf 5 s 3) (rchars (nf 5 s 3) 0 ((m :: d).map ebc)) = m :: d
  rw [this]
  unfold rfix2 nf
  simp
theorem text_back {k s c : Nat} {t : List UInt8} (hk : k = 1 ∨ k = 3 ∨ k = 4 ∨ k = 5) (hc : 1 ≤ c ∧ c ≤ 3) (hr : (nf k s c).right t = true) : rfix (nf k s c) s (rchars (nf k s c) 0 (rbytes (nf k s c) t)) = t := by
 rcases hk with rfl | rfl | rfl | rfl
 ·rw [right_nl (by decide)] at hr
  obtain ⟨h1, h2⟩ := right_one (p := ⟨s, dec, _⟩) hr
  have := dig_chars (f := nf 1 s c) rfl (.inl rfl) hc h1
  rwa [show t.length = s from h2] at this
 ·rw [right_nl (by decide)] at hr
  exact sgn_chars hc (right_one (p := ⟨s, sgn, _⟩) hr).1
 ·rw [right_nl (by decide)] at hr
  obtain ⟨h1, h2⟩ := right_one (p := ⟨2 * s, hexs, _⟩) hr
  exact hex_chars hc h1 h2
 ·rw [right_nl (by decide)] at hr
  obtain ⟨h1, h2, h3⟩ := right_two (p := ⟨1, mk, _⟩) (q := ⟨s, dec, _⟩) hr
  obtain ⟨h4, h5⟩ := right_one h3
  cases t with
  | nil => cases h1
  | cons m d => exact mk_chars hc (by simpa [onlyOf] using h2) h4 h5
theorem text_nl {k s c : Nat} {b : List UInt8} (hk : k = 1 ∨ k = 3 ∨ k = 4 ∨ k = 5) (hc : 1 ≤ c ∧ c ≤ 3) (hs : 1 ≤ s ∧ s ≤ 64) (hb : b.length = sizeAll (ptsOf (k : Int) (c : Int) s)) :
 decAll (ptsOf (k : Int) (c : Int) s) b = if (rtext (nf k s c) b s).2 = true then some (rtext (nf k s c) b s).1 else none := by
 have hk1 : 1 ≤ k ∧ k ≤ 5 := by omega
 have hkk : k ≠ 2 := by omega
 have hkd : decide ((nf k s c).kind ≠ 2) = true := decide_eq_true (by show (k : Int) ≠ 2; omega)
 have hlast : ∀ w, rlast (nf k s c) w b = w := fun w => by
  unfold rlast
  rw [if_neg (by show ¬ (k : Int) = 2; omega)]
 cases hd : decAll (ptsOf (k : Int) (c : Int) s) b with
 | some t =>
   obtain ⟨h1, h2⟩ := dec_all _ b t (pts_gm hc) (by omega) hd
   rw [List.take_of_length_le (by omega)] at h2
   have hr : (nf k s c).right t = true := by rw [right_nl hkk]; exact h1
   have hp := rbytes_put hk1 hc hs hr
   rw [put_nl hkk, h2] at hp
   have htb := text_back hk hc hr
   rw [hp] at htb
   unfold rtext
   simp only [htb]
   rw [if_pos hr, hlast, hp, hkd]
   simp
 | none =>
   unfold rtext
   simp only []
   generalize rfix (nf k s c) s (rchars (nf k s c) 0 b) = t
   by_cases hr : (nf k s c).right t = true
   ·rw [if_pos hr, hlast, hkd]
    by_cases hq : rbytes (nf k s c) t = b
    ·exfalso
     rw [rbytes_put hk1 hc hs hr, put_nl hkk] at hq
     rw [right_nl hkk] at hr
     have := (enc_all _ t [] (pts_gm hc) hr).2
     rw [List.append_nil, hq, hd] at this
     cases this
    ·rw [if_neg]
     simp [hq]
   ·rw [if_neg hr]
    rfl
theorem text_ll {s c n : Nat} {b : List UInt8} (hc : 1 ≤ c ∧ c ≤ 3) (hs : 1 ≤ s ∧ s ≤ 64) (hn : 1 ≤ n ∧ n ≤ s) (hb : b.length = sizeAll (ptsOf 2 (c : Int) n)) :
 decAll (ptsOf 2 (c : Int) n) b = if (rtext (nf 2 s c) b n).2 = true then some (rtext (nf 2 s c) b n).1 else none := by
 have e2 : ∀ m, ptsOf 2 (c : Int) m = [⟨m, dec, (rws c).d⟩] := fun m => by
  show [(⟨m, dec, (rws (c : Int).toNat).d⟩ : Pt)] = _
  rw [Int.toNat_natCast]
 have hlast : ∀ w, rlast (nf 2 s c) w b = w.drop (w.length - b.length) := fun w => rfl
 have hrb : ∀ t, rbytes (nf 2 s c) t = rdigits (c : Int) (two t.length) ++ rdigits (c : Int) t := fun t => rfl
 have hkd : decide ((nf 2 s c).kind ≠ 2) = false := rfl
 have hdl : ∀ t, onlyOf t dec = true → t.length = n → (rdigits (c : Int) t).length = b.length := fun t ht hl => by
  rw [← enc_dig (n := n) hc ht, ← enc_one hl, ← e2, (enc_all _ t [] (pts_gm hc) (by rw [e2]; simp [rightAll, hl, ht, List.take_of_length_le])).1, hb]
 have hdr : ∀ t, onlyOf t dec = true → t.length = n → rlast (nf 2 s c) (rbytes (nf 2 s c) t) b = rdigits (c : Int) t := fun t ht hl => by
  rw [hlast, hrb, List.length_append, hdl t ht hl, Nat.add_sub_cancel, List.drop_left]
 cases hd : decAll (ptsOf 2 (c : Int) n) b with
 | some t =>
   obtain ⟨h1, h2⟩ := dec_all _ b t (pts_gm hc) (by omega) hd
   rw [List.take_of_length_le (by omega)] at h2
   rw [e2] at h1 h2
   obtain ⟨h3, h4⟩ := right_one h1
   rw [enc_one h4, enc_dig hc h3] at h2
   have h4' : t.length = n := h4
   have hr : (nf 2 s c).right t = true := by
    rw [right_ll, h4', e2, h1, Bool.and_true]
    exact decide_eq_true ⟨hn.1, by omega⟩
   have htb := dig_chars (f := nf 2 s c) rfl (.inr rfl) hc h3
   rw [h4', h2] at htb
   unfold rtext
   simp only [htb]
   rw [if_pos hr, hdr t h3 h4', h2, hkd, h4']
   simp
 | none =>
   unfold rtext
   simp only []
   generalize rfix (nf 2 s c) n (rchars (nf 2 s c) 0 b) = t
   by_cases hr : (nf 2 s c).right t = true
   ·rw [if_pos hr, hkd]
    by_cases hl : t.length = n
    ·have hq := (ll_right hr).2
     rw [hl, e2] at hq
     have h3 := (right_one hq).1
     rw [hdr t h3 hl]
     by_cases hqq : rdigits (c : Int) t = b
     ·exfalso
      have := (enc_all _ t [] (pts_gm hc) (by rw [e2 n]; exact hq)).2
      rw [List.append_nil, e2 n, enc_one (show t.length = (⟨n, dec, (rws c).d⟩ : Pt).n from hl), enc_dig hc h3, hqq, ← e2 n, hd] at this
      cases this
     ·rw [if_neg]
      simp [hqq]
    ·rw [if_neg]
     simp [hl]
   ·rw [if_neg hr]
    rfl
end Go.Proofs.YticofobhkmabiaaGreatDoor.Fdd
namespace Go.Proofs.YticofobhkmabiaaGreatDoor
open Go.RowKit
open Fdd
theorem vOf_nat (b : UInt8) : vOf b = if 48 ≤ b.toNat ∧ b.toNat ≤ 57 then b.toNat - 48 else b.toNat - 87 := byte_of (P := fun b => vOf b = if 48 ≤ b.toNat ∧ b.toNat ≤ 57 then b.toNat - 48 else b.toNat - 87) (by decide +kernel) b
theorem vOf_lt (b : UInt8) (h : hexs.contains b = true) : vOf b < 16 := by
 rw [hex_byte] at h
 have h2 := of_decide_eq_true h
 rw [vOf_nat]
 split <;> omega
theorem ebc_nat (b : UInt8) : (ebc b).toNat = if 48 ≤ b.toNat ∧ b.toNat ≤ 57 then b.toNat + 192 else if 65 ≤ b.toNat ∧ b.toNat ≤ 73 then b.toNat + 128 else if 74 ≤ b.toNat ∧ b.toNat ≤ 82 then b.toNat + 135 else if 83 ≤ b.toNat ∧ b.toNat ≤ 90 then b.toNat + 143 else 64 :=
 byte_of (P := fun b => (ebc b).toNat = if 48 ≤ b.toNat ∧ b.toNat ≤ 57 then b.toNat + 192 else if 65 ≤ b.toNat ∧ b.toNat ≤ 73 then b.toNat + 128 else if 74 ≤ b.toNat ∧ b.toNat ≤ 82 then b.toNat + 135 else if 83 ≤ b.toNat ∧ b.toNat ≤ 90 then b.toNat + 143 else 64) (by decide +kernel) b
theorem wrapu8 (x : Int) : IntKind.u8.wrap x = x % 256 := by
 simp [IntKind.wrap, IntKind.bits, IntKind.signed]
theorem valueH_walk (b : UInt8) (h : hexs.contains b = true) (w : World) :
 Calls Tryz.prog 53 #[.int .u8 (b.toNat : Int)] w fun e w' => e = .returned (.int .i64 ((vOf b : Nat) : Int)) ∧ w' = w := by
 have hd := digit_walk b
 rw [dec_byte] at hd
 rw [hex_byte] at h
 have h2 := of_decide_eq_true h
 rw [vOf_nat]
 have HD := zH hd
 clear hd h
 generalize b.toNat = n at *
 by_cases h0 : 48 ≤ n ∧ n ≤ 57
 ·rw [decide_eq_true h0] at HD
  rw [if_pos h0]
  have h3 := h0.1
  have h4 := h0.2
  clear h0 h2
  go_enter Tryz.func53, Tryz.ntmps53
  go_wp2_with (go_at_call 85; refine (HD.out _).mono ?_; rintro e w1 ⟨rfl, rfl⟩)
  go_ret
  exact ⟨ret_int (by omega), rfl⟩
 ·rw [decide_eq_false h0] at HD
  rw [if_neg h0]
  have h3 : 97 ≤ n := by omega
  have h4 : n ≤ 102 := by omega
  clear h0 h2
  go_enter Tryz.func53, Tryz.ntmps53
  go_wp2_with (go_at_call 85; refine (HD.out _).mono ?_; rintro e w1 ⟨rfl, rfl⟩)
  go_ret
  exact ⟨ret_int (by omega), rfl⟩
theorem ebcdic_walk (b : UInt8) (w : World) :
 Calls Tryz.prog 86 #[.int .u8 (b.toNat : Int)] w fun e w' => e = .returned (.int .u8 (((ebc b).toNat : Nat) : Int)) ∧ w' = w := by
 have hd := digit_walk b
 rw [dec_byte] at hd
 rw [ebc_nat]
 have HD := zH hd
 clear hd
 have hb := b.toNat_lt
 generalize b.toNat = n at *
 by_cases h0 : 48 ≤ n ∧ n ≤ 57
 ·rw [decide_eq_true h0] at HD
  rw [if_pos h0]
  have h3 := h0.1
  have h4 := h0.2
  clear h0
  go_enter Tryz.func86, Tryz.ntmps86
  go_wp2_with (go_at_call 85; refine (HD.out _).mono ?_; rintro e w1 ⟨rfl, rfl⟩)
  go_ret
  exact ⟨ret_int (by first | omega | (simp only [wrapu8]; omega)), rfl⟩
 ·rw [decide_eq_false h0] at HD
  rw [if_neg h0]
  go_enter Tryz.func86, Tryz.ntmps86
  go_wp2_with (go_at_call 85; refine (HD.out _).mono ?_; rintro e w1 ⟨rfl, rfl⟩)
  all_goals (try go_ret)
  all_goals
   refine ⟨ret_int ?_, rfl⟩
   first
    | omega
    | ((repeat' split) <;> omega)
    | (simp only [wrapu8]; (repeat' split) <;> omega)
theorem exec_one {a : Act} {o : Oper} {W : World} {x : Operand} {z : UInt8} (ho : o.op = .buildSlice 26 1 #[(0, x)]) (hx : a.eval x = .int .u8 (z.toNat : Int)) : (execOp a.eval o).run Tryz.prog W = .ok (.value (.slice (some ⟨W.heap.size, 0, none⟩) 1 1)) (W.alloc (.cells (bcs [z]).toArray 5)) := by
 obtain ⟨j0, hj0, hjz, hj1, hj2⟩ := info_parts byteInfo
 exact exec_buildSlice1 ho hx (run_buildSlice_one (v := .int .u8 (z.toNat : Int)) Tryz.underlying26 hj0 hjz (by rw [hj1]; rfl) (by rw [hj1]; rfl) (by omega) (by omega) _)
theorem bs_blk {w : World} {g : Nat} {t : TypeId} {l : List UInt8} {n : Nat} (h : Blk w g t (bcs l).toArray) (hn : l.length = n) (hm : n ≤ maxLen) : Bs w (some ⟨g, 0, none⟩) n l :=
 ⟨hn, hm, fun _ => ⟨g, 0, rfl, fun i hi => by
  rw [h.cell]
  have := bcs_at l i (by omega)
  simpa using this⟩⟩
def Made (w : World) (l : List UInt8) (e : Ending) (w' : World) : Prop := ∃ A n c, e = .returned (.slice A n c) ∧ Own w' w.heap.size 5 (.slice A n c) l ∧ Turn nowhere w w'
theorem take_one {t : List UInt8} {k : Nat} (h : k < t.length) : t.take (k + 1) = t.take k ++ [t.getD k 0] := by
 rw [List.take_succ_eq_append_getElem h, List.getD_eq_getElem?_getD, List.getElem?_eq_getElem h]
 rfl
theorem wpList_call {P : Program} {ops : Array Oper} {rest : List Oper} {o : Oper} {a : Act} {w : World} {Q : Exit → Act → World → Prop} (hgd : Region.wanted o (yielded ops a.tmps) = true)
 (h : ∀ K : Act → World → Prop, Shut (∀ a' w', wpList P ops Q rest a' w' → K a' w') → o.wp P a w K Q) : wpList P ops Q (o :: rest) a w :=
 wpList_step fun K hK => by
  rw [if_pos hgd]
  exact h K hK
theorem below_turn {w w' : World} (h : Below w.heap.size w w') : Turn nowhere w w' := Turn.of_below h (Nat.le_refl _)
theorem signs_walk (code : Int) (t : List UInt8) (w : World) (hl : t.length ≤ 1000) :
 Calls Tryz.prog 72 #[.int .i64 code, strV t] w (Made w (rsigns code t)) := by
 obtain ⟨f, hf⟩ : ∃ f : UInt8 → UInt8, ∀ x : List UInt8, x.map f = rsigns code x := by
  by_cases h : code = 3
  ·exact ⟨ebc, fun x => by unfold rsigns; rw [if_pos h]⟩
  ·exact ⟨id, fun x => by unfold rsigns; rw [if_neg h, List.map_id]⟩
 have hfe : code = 3 → ∀ b, f b = ebc b := fun h b => by
  have := hf [b]
  unfold rsigns at this
  rw [if_pos h] at this
  simpa using this
 have hfi : code ≠ 3 → ∀ b, f b = b := fun h b => by
  have := hf [b]
  unfold rsigns at this
  rw [if_neg h] at this
  simpa using this
 rw [← hf t]
 have HFE := zH hfe
 have HFI := zH hfi
 have HL := zH hl
 clear hf hfe hfi hl
 obtain ⟨n, hn⟩ : ∃ n, n = t.length := ⟨_, rfl⟩
 have HN := zH hn
 clear hn
 obtain ⟨B, hB⟩ : ∃ B, B = w.heap.size := ⟨_, rfl⟩
 have HB := zH hB
 clear hB
 go_enter Tryz.func72, Tryz.ntmps72
 go_upto_region 1 with fail
 refine wp_region_lit ?_
 refine wR (v := _) rfl (exec_make0 rfl) ?_
 simp only [zz]
 refine wA (.slice (some ⟨w.heap.size, 0, none⟩) 0 0) ?_
 simp only [zz]
 have hown0 := Own.empty w B 5 (Nat.le_of_eq HB.out)
 have hbel0 : Below B w (w.alloc (.cells #[] 5)) := (Below.refl _ w).alloc (Nat.le_of_eq HB.out) _
 generalize (w.alloc (.cells #[] 5)) = w1 at *
 generalize (some (⟨w.heap.size, 0, none⟩ : Addr)) = A0 at *
 have HO0 := zH hown0
 have HB0 := zH hbel0
 clear hown0 hbel0
 go_wp2_with fail
 go_loopg [5, 6] n (fun gk b i wr => ∃ (k : Nat) (A : Option Addr) (m c : Nat), k + gk = n ∧ i = .int .i64 (k : Int) ∧ b = .slice A m c ∧ Own wr B 5 (.slice A m c) ((t.take k).map f) ∧ Below B w wr)
 case atStart => exact ⟨0, A0, 0, 0, by omega, rfl, rfl, HO0.out, HB0.out⟩
 case round =>
  obtain ⟨k, A, m, c, hkl, rfl, rfl, hown, hbel⟩ := hrel
  have HKL := zH hkl
  have HO := zH hown
  have HE := zH hbel
  clear hkl hown hbel
  go_upto_region 3 with fail
  refine wp_region_lit ?_
  refine wM (.int .i64 (k : Int)) ?_
  simp only [zz]
  refine wM (strV t) ?_
  simp only [zz]
  refine wR (v := .int .i64 (n : Int)) (w' := wr) rfl (by rw [HN.out]; exact exec_slen rfl rfl) ?_
  simp only [zz]
  by_cases hlt : k < n
  ·refine wR (v := .bool true) (w' := wr) rfl (exec_lss rfl rfl rfl (by omega)) ?_
   simp only [zz]
   have HLT := zH hlt
   have HKT := zH (show k < t.length by rw [← HN.out]; exact hlt)
   clear hlt
   by_cases h3 : code = 3
   ·have hz : f (t.getD k 0) = ebc (t.getD k 0) := HFE.out h3 _
    have htk : (t.take (k + 1)).map f = (t.take k).map f ++ [f (t.getD k 0)] := by rw [take_one HKT.out, List.map_append]; rfl
    rw [hz] at htk
    subst h3
    have HTK := zH htk
    have HEB := zH (ebcdic_walk (t.getD k 0) wr)
    clear hz htk
    go_upto_region 6 with fail
    refine wp_region_lit ?_
    refine wM (.slice A m c) ?_
    simp only [zz]
    refine wM (strV t) ?_
    simp only [zz]
    refine wM (.int .i64 (k : Int)) ?_
    simp only [zz]
    refine wR (v := .int .u8 ((t.getD k 0).toNat : Int)) (w' := wr) rfl (exec_sidx rfl rfl rfl HKT.out) ?_
    simp only [zz]
    generalize ebc (t.getD k 0) = z at *
    generalize t.getD k 0 = y at *
    refine wpList_call rfl ?_
    intro K1 HK1
    go_wp2_with fail
    refine HEB.out.mono ?_
    rintro e w1' ⟨rfl, hw⟩
    obtain rfl : wr = w1' := hw.symm
    refine HK1.out _ _ ?_
    clear HK1
    refine wR (v := _) rfl (exec_one (z := z) rfl rfl) ?_
    simp only [zz]
    have hone := bs_blk (Blk.new wr 5 (bcs [z]).toArray) (n := 1) rfl (by unfold maxLen; omega)
    have hown1 : Own (wr.alloc (.cells (bcs [z]).toArray 5)) B 5 (.slice A m c) ((t.take k).map f) := HO.out.alloc _
    refine wpList_append_bytes _ rfl _ _ _ rfl B 5 byteInfo Tryz.underlying26 _ _ rfl hown1 _ 1 1 [z] rfl hone (fun h => by cases h) (by rw [List.length_map, List.length_take]; have := HN.out; have := HL.out; omega) (by have := HE.out.size; have := HB.out; simp; omega) ?_
    intro v2 w2 ho2 hb2
    simp only [zz]
    obtain ⟨A2, m2, c2, rfl, _⟩ := ho2.form
    have HO2 := zH ho2
    have HB2 := zH hb2
    clear ho2 hb2 hone hown1
    have b0 : (0 : Int) ≤ (k : Int) := by omega
    have b1 : (k : Int) ≤ 1000 := by have := HLT.out; have := HN.out; have := HL.out; omega
    go_wp2_with fail
    go_roundg (gk - 1)
    case measure => have := HKL.out; have := HLT.out; omega
    case rel =>
     refine ⟨k + 1, A2, m2, c2, by have := HKL.out; have := HLT.out; omega, by go_num, rfl, ?_, (HE.out.alloc (by have := HE.out.size; have := HB.out; omega) _).trans HB2.out⟩
     rw [HTK.out]
     exact HO2.out
   ·have hz : f (t.getD k 0) = t.getD k 0 := HFI.out h3 _
    have htk : (t.take (k + 1)).map f = (t.take k).map f ++ [f (t.getD k 0)] := by rw [take_one HKT.out, List.map_append]; rfl
    rw [hz] at htk
    have h33 : (code == 3) = false := by simpa using h3
    have HTK := zH htk
    clear hz htk
    go_upto_region 7 with fail
    refine wp_region_lit ?_
    refine wM (.slice A m c) ?_
    simp only [zz]
    refine wM (strV t) ?_
    simp only [zz]
    refine wM (.int .i64 (k : Int)) ?_
    simp only [zz]
    refine wR (v := .int .u8 ((t.getD k 0).toNat : Int)) (w' := wr) rfl (exec_sidx rfl rfl rfl HKT.out) ?_
    simp only [zz]
    generalize t.getD k 0 = z at *
    refine wR (v := _) rfl (exec_one (z := z) rfl rfl) ?_
    simp only [zz]
    have hone := bs_blk (Blk.new wr 5 (bcs [z]).toArray) (n := 1) rfl (by unfold maxLen; omega)
    have hown1 : Own (wr.alloc (.cells (bcs [z]).toArray 5)) B 5 (.slice A m c) ((t.take k).map f) := HO.out.alloc _
    refine wpList_append_bytes _ rfl _ _ _ rfl B 5 byteInfo Tryz.underlying26 _ _ rfl hown1 _ 1 1 [z] rfl hone (fun h => by cases h) (by rw [List.length_map, List.length_take]; have := HN.out; have := HL.out; omega) (by have := HE.out.size; have := HB.out; simp; omega) ?_
    intro v2 w2 ho2 hb2
    simp only [zz]
    obtain ⟨A2, m2, c2, rfl, _⟩ := ho2.form
    have HO2 := zH ho2
    have HB2 := zH hb2
    clear ho2 hb2 hone hown1
    have b0 : (0 : Int) ≤ (k : Int) := by omega
    have b1 : (k : Int) ≤ 1000 := by have := HLT.out; have := HN.out; have := HL.out; omega
    go_wp2_with fail
    go_roundg (gk - 1)
    case measure => have := HKL.out; have := HLT.out; omega
    case rel =>
     refine ⟨k + 1, A2, m2, c2, by have := HKL.out; have := HLT.out; omega, by go_num, rfl, ?_, (HE.out.alloc (by have := HE.out.size; have := HB.out; omega) _).trans HB2.out⟩
     rw [HTK.out]
     exact HO2.out
  ·refine wR (v := .bool false) (w' := wr) rfl (exec_nlss rfl rfl rfl (by omega)) ?_
   simp only [zz]
   have hkn : t.take k = t := List.take_of_length_le (by have := HKL.out; have := HN.out; omega)
   have ho := HO.out
   rw [hkn] at ho
   have HOO := zH ho
   have HTT := zH (below_turn (by have := HE.out; rwa [HB.out] at this))
   clear hlt hkn ho
   go_wp2_with fail
   go_ret
   refine ⟨A, m, c, rfl, ?_, HTT.out⟩
   rw [← HB.out]
   exact HOO.out
theorem rpack_take : ∀ (k : Nat) (T : List UInt8), 2 * k + 1 < T.length → rpack (T.take (2 * (k + 1))) = rpack (T.take (2 * k)) ++ [UInt8.ofNat (16 * vOf (T.getD (2 * k) 0) + vOf (T.getD (2 * k + 1) 0))]
 | 0, a :: b :: r, _ => rfl
 | 0, [], h => by simp at h
 | 0, [_], h => by simp at h
 | k + 1, a :: b :: r, h => by
   have ih := rpack_take k r (by simp at h; omega)
   rw [show 2 * (k + 1 + 1) = 2 * (k + 1) + 1 + 1 from by omega, show 2 * (k + 1) = 2 * k + 1 + 1 from by omega]
   simp only [List.take_succ_cons, List.getD_cons_succ]
   rw [show 2 * k + 1 + 1 = 2 * (k + 1) from by omega]
   show UInt8.ofNat _ :: rpack (r.take (2 * (k + 1))) = UInt8.ofNat _ :: rpack (r.take (2 * k)) ++ _
   rw [ih]
   rfl
 | k + 1, [], h => by simp at h
 | k + 1, [_], h => by simp at h
theorem rpack_len : ∀ T : List UInt8, (rpack T).length ≤ T.length
 | [] => Nat.le_refl _
 | [_] => Nat.zero_le _
 | a :: b :: r => by
   have := rpack_len r
   simp only [rpack, List.length_cons]
   omega
theorem packed_walk (t : List UInt8) (w : World) (hl : t.length ≤ 1000) (ht : onlyOf t hexs = true) :
 Calls Tryz.prog 73 #[strV t] w (Made w (rpack (padded t))) := by
 have hpl := padded_two t
 have HM := zH (fun x (hx : x ∈ padded t) => padded_in (ch := hexs) (by decide) (only_in ht) x hx)
 have HL := zH hl
 clear ht
 obtain ⟨B, hB⟩ : ∃ B, B = w.heap.size := ⟨_, rfl⟩
 have HB := zH hB
 clear hB
 go_enter Tryz.func73, Tryz.ntmps73
 go_upto_region 1 with fail
 refine wp_region_lit ?_
 refine wM (strV t) ?_
 simp only [zz]
 refine wR (v := .int .i64 (t.length : Int)) (w' := w) rfl (exec_slen rfl rfl) ?_
 simp only [zz]
 have hpd : padded t = if t.length % 2 = 1 then 48 :: t else t := rfl
 by_cases hodd : t.length % 2 = 1
 ·rw [if_pos hodd] at hpd
  refine wR (v := .int .i64 1) (w' := w) rfl (by go_simp; exact tmod_one hodd) ?_
  simp only [zz]
  have HPD := zH hpd
  have HPL := zH hpl
  clear hpd hpl hodd hl
  go_upto_region 2 with fail
  refine wp_region_lit ?_
  refine wM (strV t) ?_
  simp only [zz]
  refine wR (v := strV (padded t)) (w' := w) rfl (by rw [HPD.out]; exact exec_sadd (l := [48]) rfl rfl rfl (by have := HL.out; simp; omega)) ?_
  simp only [zz]
  obtain ⟨T, hTT⟩ : ∃ T, T = padded t := ⟨_, rfl⟩
  rw [← hTT] at HPL HM HPD
  rw [← hTT]
  have HTT := zH hTT
  clear hTT
  obtain ⟨h, hh⟩ : ∃ h, h = (t.length + 1) / 2 := ⟨_, rfl⟩
  have hT : T.length = 2 * h := by have h1 := HPL.out.1; have h2 := HPL.out.2; omega
  have hh1 : h ≤ 1000 := by have := HL.out; omega
  have HT := zH hT
  have HH1 := zH hh1
  clear hT hh1 hh HPL HPD
  go_upto_region 3 with fail
  refine wp_region_lit ?_
  refine wR (v := _) rfl (exec_make0 rfl) ?_
  simp only [zz]
  refine wA (.slice (some ⟨w.heap.size, 0, none⟩) 0 0) ?_
  simp only [zz]
  have hown0 := Own.empty w B 5 (Nat.le_of_eq HB.out)
  have hbel0 : Below B w (w.alloc (.cells #[] 5)) := (Below.refl _ w).alloc (Nat.le_of_eq HB.out) _
  generalize (w.alloc (.cells #[] 5)) = w1 at *
  generalize (some (⟨w.heap.size, 0, none⟩ : Addr)) = A0 at *
  have HO0 := zH hown0
  have HB0 := zH hbel0
  clear hown0 hbel0
  go_wp2_with fail
  go_loopg [3, 4] h (fun gk b i wr => ∃ (k : Nat) (A : Option Addr) (m c : Nat), k + gk = h ∧ i = .int .i64 ((2 * k : Nat) : Int) ∧ b = .slice A m c ∧ Own wr B 5 (.slice A m c) (rpack (T.take (2 * k))) ∧ Below B w wr)
  case atStart => exact ⟨0, A0, 0, 0, by omega, rfl, rfl, HO0.out, HB0.out⟩
  case round =>
   obtain ⟨k, A, m, c, hkl, rfl, rfl, hown, hbel⟩ := hrel
   have HKL := zH hkl
   have HO := zH hown
   have HE := zH hbel
   clear hkl hown hbel
   go_upto_region 5 with fail
   refine wp_region_lit ?_
   refine wM (.int .i64 ((2 * k : Nat) : Int)) ?_
   simp only [zz]
   refine wM (strV T) ?_
   simp only [zz]
   refine wR (v := .int .i64 ((2 * h : Nat) : Int)) (w' := wr) rfl (by rw [← HT.out]; exact exec_slen rfl rfl) ?_
   simp only [zz]
   by_cases hlt : k < h
   ·have y1 : ((2 * k : Nat) : Int) < ((2 * h : Nat) : Int) := by omega
    refine wR (v := .bool true) (w' := wr) rfl (exec_lss rfl rfl rfl y1) ?_
    simp only [zz]
    have HLT := zH hlt
    clear hlt y1
    go_upto_region 7 with fail
    have hk0 : 2 * k < T.length := by rw [HT.out]; have := HLT.out; omega
    have hk1 : 2 * k + 1 < T.length := by rw [HT.out]; have := HLT.out; omega
    have hm0 : hexs.contains (T.getD (2 * k) 0) = true := by
     rw [List.getD_eq_getElem?_getD, List.getElem?_eq_getElem hk0, List.contains_iff_mem]
     exact HM.out _ (List.getElem_mem _)
    have hm1 : hexs.contains (T.getD (2 * k + 1) 0) = true := by
     rw [List.getD_eq_getElem?_getD, List.getElem?_eq_getElem hk1, List.contains_iff_mem]
     exact HM.out _ (List.getElem_mem _)
    have hi0 := vOf_lt _ hm0
    have hi1 := vOf_lt _ hm1
    have HV0 := zH (fun W => valueH_walk _ hm0 W)
    have HV1 := zH (fun W => valueH_walk _ hm1 W)
    have htk := rpack_take k T hk1
    have HK0 := zH hk0
    have HK1 := zH hk1
    generalize vOf (T.getD (2 * k) 0) = i0 at *
    generalize vOf (T.getD (2 * k + 1) 0) = i1 at *
    have hby : ((UInt8.ofNat (16 * i0 + i1)).toNat : Int) = ((16 * i0 + i1 : Nat) : Int) := by rw [UInt8.toNat_ofNat']; omega
    generalize UInt8.ofNat (16 * i0 + i1) = z at *
    have HTK := zH htk
    have HBY := zH hby
    have HI := zH (And.intro hi0 hi1)
    have hw5 : IntKind.i64.wrap (16 * (i0 : Int)) = 16 * (i0 : Int) := by rw [IntKind.wrap_i64]; omega
    have hw11 : IntKind.i64.wrap (16 * (i0 : Int) + (i1 : Int)) = 16 * (i0 : Int) + (i1 : Int) := by rw [IntKind.wrap_i64]; omega
    have hw12 : IntKind.u8.wrap (16 * (i0 : Int) + (i1 : Int)) = (z.toNat : Int) := by rw [wrapu8, hby]; omega
    have HW := zH (And.intro hw5 (And.intro hw11 hw12))
    clear hk0 hk1 hm0 hm1 htk hby hi0 hi1 hw5 hw11 hw12
    have x64 : (2 * (k : Int) + 1) ≤ 2001 := by have := HLT.out; have := HH1.out; omega
    have hS0 : True := trivial
    refine wp_region_till (fun _ => True) 15 (by kernel_rfl) ?_
    refine till_pure (i := 0) (v := .slice A m c) rfl (by kernel_rfl) (by kernel_rfl) (fun _ _ _ h => h) (.inl ⟨by rfl, fun W hW => exec_move rfl rfl⟩) hS0 ?_
    simp only [zz]
    refine till_pure (i := 1) (v := strV T) rfl (by kernel_rfl) (by kernel_rfl) (fun _ _ _ h => h) (.inl ⟨by rfl, fun W hW => exec_move rfl rfl⟩) hS0 ?_
    simp only [zz]
    refine till_pure (i := 2) (v := .int .i64 ((2 * k : Nat) : Int)) rfl (by kernel_rfl) (by kernel_rfl) (fun _ _ _ h => h) (.inl ⟨by rfl, fun W hW => exec_move rfl rfl⟩) hS0 ?_
    simp only [zz]
    refine till_pure (i := 3) (v := .int .u8 ((T.getD (2 * k) 0).toNat : Int)) rfl (by kernel_rfl) (by kernel_rfl) (fun _ _ _ h => h) (.inl ⟨by rfl, fun W hW => exec_sidx rfl rfl rfl HK0.out⟩) hS0 ?_
    simp only [zz]
    refine till_pure (i := 6) (v := strV T) rfl (by kernel_rfl) (by kernel_rfl) (fun _ _ _ h => h) (.inl ⟨by rfl, fun W hW => exec_move rfl rfl⟩) hS0 ?_
    simp only [zz]
    refine till_pure (i := 7) (v := .int .i64 ((2 * k : Nat) : Int)) rfl (by kernel_rfl) (by kernel_rfl) (fun _ _ _ h => h) (.inl ⟨by rfl, fun W hW => exec_move rfl rfl⟩) hS0 ?_
    simp only [zz]
    refine till_pure (i := 8) (v := .int .i64 ((2 * k + 1 : Nat) : Int)) rfl (by kernel_rfl) (by kernel_rfl) (fun _ _ _ h => h) (.inl ⟨by rfl, fun W hW => by go_simp; rw [IntKind.wrap_i64]; omega⟩) hS0 ?_
    simp only [zz]
    refine till_pure (i := 9) (v := .int .u8 ((T.getD (2 * k + 1) 0).toNat : Int)) rfl (by kernel_rfl) (by kernel_rfl) (fun _ _ _ h => h) (.inl ⟨by rfl, fun W hW => exec_sidx rfl rfl rfl HK1.out⟩) hS0 ?_
    simp only [zz]
    refine till_step (i := 4) (by kernel_rfl) rfl rfl ?_
    intro K1 HK1x
    go_wp2_with fail
    refine (HV0.out _).mono ?_
    rintro e w5 ⟨rfl, hw⟩
    obtain rfl : wr.drew = w5 := hw.symm
    refine HK1x.out _ _ ⟨fun _ => hS0, ?_⟩
    clear HK1x
    refine till_pure (i := 5) (v := .int .i64 (16 * (i0 : Int))) rfl (by kernel_rfl) (by kernel_rfl) (fun _ _ _ h => h) (.inl ⟨by rfl, fun W hW => by have h := HW.out.1; go_simp⟩) hS0 ?_
    simp only [zz]
    refine till_step (i := 10) (by kernel_rfl) rfl rfl ?_
    intro K1 HK1x
    go_wp2_with fail
    refine (HV1.out _).mono ?_
    rintro e w5 ⟨rfl, hw⟩
    obtain rfl : wr.drew = w5 := hw.symm
    refine HK1x.out _ _ ⟨fun _ => hS0, ?_⟩
    clear HK1x
    refine till_pure (i := 11) (v := .int .i64 (16 * (i0 : Int) + (i1 : Int))) rfl (by kernel_rfl) (by kernel_rfl) (fun _ _ _ h => h) (.inl ⟨by rfl, fun W hW => by have h := HW.out.2.1; go_simp⟩) hS0 ?_
    simp only [zz]
    refine till_pure (i := 12) (v := .int .u8 (z.toNat : Int)) rfl (by kernel_rfl) (by kernel_rfl) (fun _ _ _ h => h) (.inl ⟨by rfl, fun W hW => by have h := HW.out.2.2; go_simp⟩) hS0 ?_
    simp only [zz]
    refine till_only (i := 13) (by kernel_rfl) rfl rfl ?_
    refine wp_run (exec_one (z := z) rfl rfl) ?_
    refine ⟨fun _ => hS0, ?_⟩
    simp only [zz]
    refine till_step (i := 14) (by kernel_rfl) rfl rfl ?_
    intro K1 HK1x
    have hone := bs_blk (Blk.new wr.drew 5 (bcs [z]).toArray) (n := 1) rfl (by unfold maxLen; omega)
    have hown1 : Own (wr.drew.alloc (.cells (bcs [z]).toArray 5)) B 5 (.slice A m c) (rpack (T.take (2 * k))) := World.ownsRow.alloc (w := wr.drew) HO.out _
    refine wp_append_bytes _ _ _ _ rfl B 5 byteInfo Tryz.underlying26 _ _ rfl hown1 _ 1 1 [z] rfl hone (fun h => by cases h) (by have h1 := rpack_len (T.take (2 * k)); rw [List.length_take] at h1; have := HT.out; have := HH1.out; omega) (by have := HE.out.size; have := HB.out; simp; omega) ?_
    intro v2 w2 ho2 hb2
    refine HK1x.out _ _ ⟨fun _ => hS0, ?_⟩
    clear HK1x
    simp only [zz]
    obtain ⟨A2, m2, c2, rfl, _⟩ := ho2.form
    have HO2 := zH ho2
    have HB2 := zH hb2
    clear ho2 hb2 hone hown1
    refine till_tail 15 rfl (by kernel_rfl) ?_
    have b0 : (0 : Int) ≤ (k : Int) := by omega
    have b1 : (k : Int) ≤ 1000 := by have := HLT.out; have := HH1.out; omega
    go_wp2_with fail
    refine NoPanic.normal ?_
    go_wp2_with fail
    go_roundg (gk - 1)
    case measure => have := HKL.out; have := HLT.out; omega
    case rel =>
     refine ⟨k + 1, A2, m2, c2, by have := HKL.out; have := HLT.out; omega, by go_num, rfl, ?_, (HE.out.drew.alloc (by have := HE.out.size; have := HB.out; show B ≤ wr.heap.size; omega) _).trans HB2.out⟩
     rw [HTK.out]
     exact HO2.out
   ·have y1 : ¬ (((2 * k : Nat) : Int) < ((2 * h : Nat) : Int)) := by omega
    refine wR (v := .bool false) (w' := wr) rfl (exec_nlss rfl rfl rfl y1) ?_
    simp only [zz]
    have hkn : T.take (2 * k) = T := List.take_of_length_le (by have := HKL.out; have := HT.out; omega)
    have ho := HO.out
    rw [hkn] at ho
    have HOO := zH ho
    have HTW := zH (below_turn (by have := HE.out; rwa [HB.out] at this))
    clear hlt hkn ho y1
    go_wp2_with fail
    go_ret
    refine ⟨A, m, c, rfl, ?_, HTW.out⟩
    rw [← HB.out, ← HTT.out]
    exact HOO.out
 ·rw [if_neg hodd] at hpd
  refine wR (v := .int .i64 0) (w' := w) rfl (by go_simp; exact tmod_nil hodd) ?_
  simp only [zz]
  have HPD := zH hpd
  have HPL := zH hpl
  clear hpd hpl hodd hl
  obtain ⟨T, hTT⟩ : ∃ T, T = padded t := ⟨_, rfl⟩
  rw [← hTT] at HPL HM HPD
  have hTt : T = t := HPD.out
  have HTT := zH hTT
  clear hTT
  obtain ⟨h, hh⟩ : ∃ h, h = (t.length + 1) / 2 := ⟨_, rfl⟩
  have hT : T.length = 2 * h := by have h1 := HPL.out.1; have h2 := HPL.out.2; omega
  have hh1 : h ≤ 1000 := by have := HL.out; omega
  have HT := zH hT
  have HH1 := zH hh1
  clear hT hh1 hh HPL HPD
  rw [← hTt]
  have HTx := zH hTt
  clear hTt
  go_upto_region 3 with fail
  refine wp_region_lit ?_
  refine wR (v := _) rfl (exec_make0 rfl) ?_
  simp only [zz]
  refine wA (.slice (some ⟨w.heap.size, 0, none⟩) 0 0) ?_
  simp only [zz]
  have hown0 := Own.empty w B 5 (Nat.le_of_eq HB.out)
  have hbel0 : Below B w (w.alloc (.cells #[] 5)) := (Below.refl _ w).alloc (Nat.le_of_eq HB.out) _
  generalize (w.alloc (.cells #[] 5)) = w1 at *
  generalize (some (⟨w.heap.size, 0, none⟩ : Addr)) = A0 at *
  have HO0 := zH hown0
  have HB0 := zH hbel0
  clear hown0 hbel0
  go_wp2_with fail
  go_loopg [3, 4] h (fun gk b i wr => ∃ (k : Nat) (A : Option Addr) (m c : Nat), k + gk = h ∧ i = .int .i64 ((2 * k : Nat) : Int) ∧ b = .slice A m c ∧ Own wr B 5 (.slice A m c) (rpack (T.take (2 * k))) ∧ Below B w wr)
  case atStart => exact ⟨0, A0, 0, 0, by omega, rfl, rfl, HO0.out, HB0.out⟩
  case round =>
   obtain ⟨k, A, m, c, hkl, rfl, rfl, hown, hbel⟩ := hrel
   have HKL := zH hkl
   have HO := zH hown
   have HE := zH hbel
   clear hkl hown hbel
   go_upto_region 5 with fail
   refine wp_region_lit ?_
   refine wM (.int .i64 ((2 * k : Nat) : Int)) ?_
   simp only [zz]
   refine wM (strV T) ?_
   simp only [zz]
   refine wR (v := .int .i64 ((2 * h : Nat) : Int)) (w' := wr) rfl (by rw [← HT.out]; exact exec_slen rfl rfl) ?_
   simp only [zz]
   by_cases hlt : k < h
   ·have y1 : ((2 * k : Nat) : Int) < ((2 * h : Nat) : Int) := by omega
    refine wR (v := .bool true) (w' := wr) rfl (exec_lss rfl rfl rfl y1) ?_
    simp only [zz]
    have HLT := zH hlt
    clear hlt y1
    go_upto_region 7 with fail
    have hk0 : 2 * k < T.length := by rw [HT.out]; have := HLT.out; omega
    have hk1 : 2 * k + 1 < T.length := by rw [HT.out]; have := HLT.out; omega
    have hm0 : hexs.contains (T.getD (2 * k) 0) = true := by
     rw [List.getD_eq_getElem?_getD, List.getElem?_eq_getElem hk0, List.contains_iff_mem]
     exact HM.out _ (List.getElem_mem _)
    have hm1 : hexs.contains (T.getD (2 * k + 1) 0) = true := by
     rw [List.getD_eq_getElem?_getD, List.getElem?_eq_getElem hk1, List.contains_iff_mem]
     exact HM.out _ (List.getElem_mem _)
    have hi0 := vOf_lt _ hm0
    have hi1 := vOf_lt _ hm1
    have HV0 := zH (fun W => valueH_walk _ hm0 W)
    have HV1 := zH (fun W => valueH_walk _ hm1 W)
    have htk := rpack_take k T hk1
    have HK0 := zH hk0
    have HK1 := zH hk1
    generalize vOf (T.getD (2 * k) 0) = i0 at *
    generalize vOf (T.getD (2 * k + 1) 0) = i1 at *
    have hby : ((UInt8.ofNat (16 * i0 + i1)).toNat : Int) = ((16 * i0 + i1 : Nat) : Int) := by rw [UInt8.toNat_ofNat']; omega
    generalize UInt8.ofNat (16 * i0 + i1) = z at *
    have HTK := zH htk
    have HBY := zH hby
    have HI := zH (And.intro hi0 hi1)
    have hw5 : IntKind.i64.wrap (16 * (i0 : Int)) = 16 * (i0 : Int) := by rw [IntKind.wrap_i64]; omega
    have hw11 : IntKind.i64.wrap (16 * (i0 : Int) + (i1 : Int)) = 16 * (i0 : Int) + (i1 : Int) := by rw [IntKind.wrap_i64]; omega
    have hw12 : IntKind.u8.wrap (16 * (i0 : Int) + (i1 : Int)) = (z.toNat : Int) := by rw [wrapu8, hby]; omega
    have HW := zH (And.intro hw5 (And.intro hw11 hw12))
    clear hk0 hk1 hm0 hm1 htk hby hi0 hi1 hw5 hw11 hw12
    have x64 : (2 * (k : Int) + 1) ≤ 2001 := by have := HLT.out; have := HH1.out; omega
    have hS0 : True := trivial
    refine wp_region_till (fun _ => True) 15 (by kernel_rfl) ?_
    refine till_pure (i := 0) (v := .slice A m c) rfl (by kernel_rfl) (by kernel_rfl) (fun _ _ _ h => h) (.inl ⟨by rfl, fun W hW => exec_move rfl rfl⟩) hS0 ?_
    simp only [zz]
    refine till_pure (i := 1) (v := strV T) rfl (by kernel_rfl) (by kernel_rfl) (fun _ _ _ h => h) (.inl ⟨by rfl, fun W hW => exec_move rfl rfl⟩) hS0 ?_
    simp only [zz]
    refine till_pure (i := 2) (v := .int .i64 ((2 * k : Nat) : Int)) rfl (by kernel_rfl) (by kernel_rfl) (fun _ _ _ h => h) (.inl ⟨by rfl, fun W hW => exec_move rfl rfl⟩) hS0 ?_
    simp only [zz]
    refine till_pure (i := 3) (v := .int .u8 ((T.getD (2 * k) 0).toNat : Int)) rfl (by kernel_rfl) (by kernel_rfl) (fun _ _ _ h => h) (.inl ⟨by rfl, fun W hW => exec_sidx rfl rfl rfl HK0.out⟩) hS0 ?_
    simp only [zz]
    refine till_pure (i := 6) (v := strV T) rfl (by kernel_rfl) (by kernel_rfl) (fun _ _ _ h => h) (.inl ⟨by rfl, fun W hW => exec_move rfl rfl⟩) hS0 ?_
    simp only [zz]
    refine till_pure (i := 7) (v := .int .i64 ((2 * k : Nat) : Int)) rfl (by kernel_rfl) (by kernel_rfl) (fun _ _ _ h => h) (.inl ⟨by rfl, fun W hW => exec_move rfl rfl⟩) hS0 ?_
    simp only [zz]
    refine till_pure (i := 8) (v := .int .i64 ((2 * k + 1 : Nat) : Int)) rfl (by kernel_rfl) (by kernel_rfl) (fun _ _ _ h => h) (.inl ⟨by rfl, fun W hW => by go_simp; rw [IntKind.wrap_i64]; omega⟩) hS0 ?_
    simp only [zz]
    refine till_pure (i := 9) (v := .int .u8 ((T.getD (2 * k + 1) 0).toNat : Int)) rfl (by kernel_rfl) (by kernel_rfl) (fun _ _ _ h => h) (.inl ⟨by rfl, fun W hW => exec_sidx rfl rfl rfl HK1.out⟩) hS0 ?_
    simp only [zz]
    refine till_step (i := 4) (by kernel_rfl) rfl rfl ?_
    intro K1 HK1x
    go_wp2_with fail
    refine (HV0.out _).mono ?_
    rintro e w5 ⟨rfl, hw⟩
    obtain rfl : wr.drew = w5 := hw.symm
    refine HK1x.out _ _ ⟨fun _ => hS0, ?_⟩
    clear HK1x
    refine till_pure (i := 5) (v := .int .i64 (16 * (i0 : Int))) rfl (by kernel_rfl) (by kernel_rfl) (fun _ _ _ h => h) (.inl ⟨by rfl, fun W hW => by have h := HW.out.1; go_simp⟩) hS0 ?_
    simp only [zz]
    refine till_step (i := 10) (by kernel_rfl) rfl rfl ?_
    intro K1 HK1x
    go_wp2_with fail
    refine (HV1.out _).mono ?_
    rintro e w5 ⟨rfl, hw⟩
    obtain rfl : wr.drew = w5 := hw.symm
    refine HK1x.out _ _ ⟨fun _ => hS0, ?_⟩
    clear HK1x
    refine till_pure (i := 11) (v := .int .i64 (16 * (i0 : Int) + (i1 : Int))) rfl (by kernel_rfl) (by kernel_rfl) (fun _ _ _ h => h) (.inl ⟨by rfl, fun W hW => by have h := HW.out.2.1; go_simp⟩) hS0 ?_
    simp only [zz]
    refine till_pure (i := 12) (v := .int .u8 (z.toNat : Int)) rfl (by kernel_rfl) (by kernel_rfl) (fun _ _ _ h => h) (.inl ⟨by rfl, fun W hW => by have h := HW.out.2.2; go_simp⟩) hS0 ?_
    simp only [zz]
    refine till_only (i := 13) (by kernel_rfl) rfl rfl ?_
    refine wp_run (exec_one (z := z) rfl rfl) ?_
    refine ⟨fun _ => hS0, ?_⟩
    simp only [zz]
    refine till_step (i := 14) (by kernel_rfl) rfl rfl ?_
    intro K1 HK1x
    have hone := bs_blk (Blk.new wr.drew 5 (bcs [z]).toArray) (n := 1) rfl (by unfold maxLen; omega)
    have hown1 : Own (wr.drew.alloc (.cells (bcs [z]).toArray 5)) B 5 (.slice A m c) (rpack (T.take (2 * k))) := World.ownsRow.alloc (w := wr.drew) HO.out _
    refine wp_append_bytes _ _ _ _ rfl B 5 byteInfo Tryz.underlying26 _ _ rfl hown1 _ 1 1 [z] rfl hone (fun h => by cases h) (by have h1 := rpack_len (T.take (2 * k)); rw [List.length_take] at h1; have := HT.out; have := HH1.out; omega) (by have := HE.out.size; have := HB.out; simp; omega) ?_
    intro v2 w2 ho2 hb2
    refine HK1x.out _ _ ⟨fun _ => hS0, ?_⟩
    clear HK1x
    simp only [zz]
    obtain ⟨A2, m2, c2, rfl, _⟩ := ho2.form
    have HO2 := zH ho2
    have HB2 := zH hb2
    clear ho2 hb2 hone hown1
    refine till_tail 15 rfl (by kernel_rfl) ?_
    have b0 : (0 : Int) ≤ (k : Int) := by omega
    have b1 : (k : Int) ≤ 1000 := by have := HLT.out; have := HH1.out; omega
    go_wp2_with fail
    refine NoPanic.normal ?_
    go_wp2_with fail
    go_roundg (gk - 1)
    case measure => have := HKL.out; have := HLT.out; omega
    case rel =>
     refine ⟨k + 1, A2, m2, c2, by have := HKL.out; have := HLT.out; omega, by go_num, rfl, ?_, (HE.out.drew.alloc (by have := HE.out.size; have := HB.out; show B ≤ wr.heap.size; omega) _).trans HB2.out⟩
     rw [HTK.out]
     exact HO2.out
   ·have y1 : ¬ (((2 * k : Nat) : Int) < ((2 * h : Nat) : Int)) := by omega
    refine wR (v := .bool false) (w' := wr) rfl (exec_nlss rfl rfl rfl y1) ?_
    simp only [zz]
    have hkn : T.take (2 * k) = T := List.take_of_length_le (by have := HKL.out; have := HT.out; omega)
    have ho := HO.out
    rw [hkn] at ho
    have HOO := zH ho
    have HTW := zH (below_turn (by have := HE.out; rwa [HB.out] at this))
    clear hlt hkn ho y1
    go_wp2_with fail
    go_ret
    refine ⟨A, m, c, rfl, ?_, HTW.out⟩
    rw [← HB.out, ← HTT.out]
    exact HOO.out
theorem two_made (a b : Int) (W : World) : (Instr.buildSlice 26 2 #[(0, .int .u8 a), (1, .int .u8 b)]).run Tryz.prog W = .ok (.slice (some ⟨W.heap.size, 0, none⟩) 2 2) (W.alloc (.cells #[.int .u8 a, .int .u8 b] 5)) := by kernel_rfl
theorem exec_two {a : Act} {o : Oper} {W : World} {x y : Operand} {u v : UInt8} (ho : o.op = .buildSlice 26 2 #[(0, x), (1, y)]) (hx : a.eval x = .int .u8 (u.toNat : Int)) (hy : a.eval y = .int .u8 (v.toNat : Int)) :
 (execOp a.eval o).run Tryz.prog W = .ok (.value (.slice (some ⟨W.heap.size, 0, none⟩) 2 2)) (W.alloc (.cells (bcs [u, v]).toArray 5)) := by
 unfold execOp
 simp only [ho, List.map_toArray, List.map_cons, List.map_nil, hx, hy, two_made, Sem.run_bind, Sem.run_pure, Result.andThen_ok]
 rfl
theorem r2_walk (n : Nat) (w : World) (hn : n ≤ 99) : Calls Tryz.prog 71 #[.int .i64 (n : Int)] w fun e w' => e = .returned (strV (two n)) ∧ Turn nowhere w w' := by
 obtain ⟨u, hu⟩ : ∃ u, u = UInt8.ofNat (48 + n / 10) := ⟨_, rfl⟩
 obtain ⟨v, hv⟩ : ∃ v, v = UInt8.ofNat (48 + n % 10) := ⟨_, rfl⟩
 have hun : (u.toNat : Int) = 48 + ((n / 10 : Nat) : Int) := by rw [hu, UInt8.toNat_ofNat']; omega
 have hvn : (v.toNat : Int) = 48 + ((n % 10 : Nat) : Int) := by rw [hv, UInt8.toNat_ofNat']; omega
 have htw : two n = [u, v] := by rw [hu, hv]; rfl
 rw [htw]
 have hq : (n : Int).tdiv 10 = ((n / 10 : Nat) : Int) := rfl
 have hr : (n : Int).tmod 10 = ((n % 10 : Nat) : Int) := rfl
 have hd1 : n / 10 ≤ 9 := by omega
 have hd2 : n % 10 ≤ 9 := by omega
 have hw1 : IntKind.i64.wrap (48 + ((n / 10 : Nat) : Int)) = (u.toNat : Int) := by rw [IntKind.wrap_i64, hun]; omega
 have hw2 : IntKind.i64.wrap (48 + ((n % 10 : Nat) : Int)) = (v.toNat : Int) := by rw [IntKind.wrap_i64, hvn]; omega
 have hw3 : IntKind.u8.wrap (u.toNat : Int) = (u.toNat : Int) := by rw [wrapu8]; have := u.toNat_lt; omega
 have hw4 : IntKind.u8.wrap (v.toNat : Int) = (v.toNat : Int) := by rw [wrapu8]; have := v.toNat_lt; omega
 have hw5 : IntKind.i64.wrap ((n / 10 : Nat) : Int) = ((n / 10 : Nat) : Int) := by rw [IntKind.wrap_i64]; omega
 have H := zH (And.intro hq (And.intro hr (And.intro hw1 (And.intro hw2 (And.intro hw3 hw4)))))
 have H5 := zH hw5
 clear hu hv hun hvn htw hq hr hd1 hd2 hw1 hw2 hw3 hw4 hw5 hn
 generalize hn10 : ((n / 10 : Nat) : Int) = q at *
 generalize hm10 : ((n % 10 : Nat) : Int) = r at *
 clear hn10 hm10
 go_enter Tryz.func71, Tryz.ntmps71
 go_upto_region 1 with fail
 refine wp_region_lit ?_
 refine wM (.int .i64 (n : Int)) ?_
 simp only [zz]
 refine wR (v := .int .i64 q) (w' := w) rfl (by have h := H.out.1; have h5 := H5.out; go_simp) ?_
 simp only [zz]
 refine wR (v := .int .i64 (u.toNat : Int)) (w' := w) rfl (by have h := H.out.2.2.1; go_simp) ?_
 simp only [zz]
 refine wR (v := .int .u8 (u.toNat : Int)) (w' := w) rfl (by have h := H.out.2.2.2.2.1; go_simp) ?_
 simp only [zz]
 refine wM (.int .i64 (n : Int)) ?_
 simp only [zz]
 refine wR (v := .int .i64 r) (w' := w) rfl (by have h := H.out.2.1; go_simp) ?_
 simp only [zz]
 refine wR (v := .int .i64 (v.toNat : Int)) (w' := w) rfl (by have h := H.out.2.2.2.1; go_simp) ?_
 simp only [zz]
 refine wR (v := .int .u8 (v.toNat : Int)) (w' := w) rfl (by have h := H.out.2.2.2.2.2; go_simp) ?_
 simp only [zz]
 refine wR (v := _) rfl (exec_two (u := u) (v := v) rfl rfl rfl) ?_
 simp only [zz]
 have hb := Blk.new w 5 (bcs [u, v]).toArray
 have ht : Turn nowhere w (w.alloc (.cells (bcs [u, v]).toArray 5)) := (Turn.refl nowhere w).alloc _
 generalize w.alloc (.cells (bcs [u, v]).toArray 5) = w1 at *
 have HB := zH (bs_blk hb (n := 2) rfl (by unfold maxLen; omega))
 have HT := zH ht
 clear hb ht
 refine wR (v := strV [u, v]) (w' := w1) rfl (exec_strBs rfl rfl HB.out) ?_
 simp only [zz]
 go_wp2_with fail
 go_ret
 exact ⟨rfl, HT.out⟩
theorem rdig_walk (code : Int) (t : List UInt8) (w : World) (hl : t.length ≤ 1000) (ht : onlyOf t dec = true) :
 Calls Tryz.prog 70 #[.int .i64 code, strV t] w (Made w (rdigits code t)) := by
 have hp := packed_walk t w hl (onlyOf_of fun c hc => dec_hex c (only_in ht c hc))
 have hs := signs_walk code t w hl
 by_cases h : code = 2
 ·have e : rdigits code t = rpack (padded t) := by unfold rdigits; rw [if_pos h]
  rw [e]
  subst h
  have HP := zH hp
  clear hp hs e ht hl
  generalize rpack (padded t) = l at *
  go_enter Tryz.func70, Tryz.ntmps70
  go_wp2_with (go_at_call 73; refine HP.out.mono ?_; rintro e w1 ⟨A, n, c, rfl, ho, ht⟩; have HO := zH ho; have HT := zH ht; clear ho ht)
  go_ret
  exact ⟨A, n, c, rfl, HO.out, HT.out⟩
 ·have e : rdigits code t = rsigns code t := by unfold rdigits; rw [if_neg h]
  rw [e]
  have h2 : (code == 2) = false := by simpa using h
  have HP := zH hs
  clear hp hs e ht hl h
  generalize rsigns code t = l at *
  go_enter Tryz.func70, Tryz.ntmps70
  go_wp2_with (go_at_call 72; refine HP.out.mono ?_; rintro e w1 ⟨A, n, c, rfl, ho, ht⟩; have HO := zH ho; have HT := zH ht; clear ho ht)
  go_ret
  exact ⟨A, n, c, rfl, HO.out, HT.out⟩
theorem Made.of {w w1 w' : World} {l : List UInt8} {e : Ending} (h : Made w1 l e w') (ht : Turn nowhere w w1) : Made w l e w' := by
 obtain ⟨A, n, c, he, ho, h2⟩ := h
 refine ⟨A, n, c, he, ⟨ho.1, ?_⟩, ht.trans h2 fun _ _ e => e⟩
 rcases ho.2 with hn | ⟨g, cap, cur, hv, hg, hr⟩
 ·exact .inl hn
 ·exact .inr ⟨g, cap, cur, hv, Nat.le_trans ht.size hg, hr⟩
theorem own_lower {w : World} {B B' : Nat} {e : TypeId} {v : Value} {l : List UInt8} (h : Own w B e v l) (hb : B' ≤ B) : Own w B' e v l := by
 refine ⟨h.1, ?_⟩
 rcases h.2 with hn | ⟨g, cap, cur, hv, hg, hr⟩
 ·exact .inl hn
 ·exact .inr ⟨g, cap, cur, hv, Nat.le_trans hb hg, hr⟩
theorem bytes1_walk (s : Nat) (code : Int) (t : List UInt8) (w : World) (hl : t.length ≤ 1000) (ht : onlyOf t dec = true) :
 Calls Tryz.prog 44 #[fmV ⟨1, (s : Int), code⟩, strV t] w (Made w (rdigits code t)) := by
 have HC := zH (fun W => rdig_walk code t W hl ht)
 clear hl ht
 unfold fmV
 obtain ⟨b2, hb2⟩ : ∃ b2, b2 = w.heap.size := ⟨_, rfl⟩
 have HB2 := zH hb2
 go_enter Tryz.func44, Tryz.ntmps44
 go_upto_region 1 with fail
 have hb0 := Blk.new w 49 #[.int .i64 1, .int .i64 (s : Int), .int .i64 code]
 have ht0 := (Turn.refl nowhere w).alloc (.cells #[.int .i64 1, .int .i64 (s : Int), .int .i64 code] 49)
 generalize (w.alloc (.cells #[.int .i64 1, .int .i64 (s : Int), .int .i64 code] 49)) = w1 at *
 rw [← hb2] at hb0 ⊢
 have HBK := zH hb0
 have HT0 := zH ht0
 have c0 : w1.cell? ⟨b2, 0, none⟩ = some (.int .i64 1) := hb0.cell 0
 have c2 : w1.cell? ⟨b2, 2, none⟩ = some (.int .i64 code) := hb0.cell 2
 clear hb0 ht0 hb2
 go_wp2_with (go_at_call 70; refine (HC.out _).mono ?_; rintro e w2 hm; obtain ⟨A, n, c, rfl, ho, ht⟩ := hm.of HT0.out; have HO := zH ho; have HT := zH ht; clear ho ht hm)
 go_ret
 exact ⟨A, n, c, rfl, HO.out, HT.out⟩
theorem bytes3_walk (s : Nat) (code : Int) (t : List UInt8) (w : World) (hl : t.length ≤ 1000) :
 Calls Tryz.prog 44 #[fmV ⟨3, (s : Int), code⟩, strV t] w (Made w (rsigns code t)) := by
 have HC := zH (fun W => signs_walk code t W hl)
 clear hl
 unfold fmV
 obtain ⟨b2, hb2⟩ : ∃ b2, b2 = w.heap.size := ⟨_, rfl⟩
 have HB2 := zH hb2
 go_enter Tryz.func44, Tryz.ntmps44
 go_upto_region 1 with fail
 have hb0 := Blk.new w 49 #[.int .i64 3, .int .i64 (s : Int), .int .i64 code]
 have ht0 := (Turn.refl nowhere w).alloc (.cells #[.int .i64 3, .int .i64 (s : Int), .int .i64 code] 49)
 generalize (w.alloc (.cells #[.int .i64 3, .int .i64 (s : Int), .int .i64 code] 49)) = w1 at *
 rw [← hb2] at hb0 ⊢
 have HBK := zH hb0
 have HT0 := zH ht0
 have c0 : w1.cell? ⟨b2, 0, none⟩ = some (.int .i64 3) := hb0.cell 0
 have c2 : w1.cell? ⟨b2, 2, none⟩ = some (.int .i64 code) := hb0.cell 2
 clear hb0 ht0 hb2
 go_wp2_with (go_at_call 72; refine (HC.out _).mono ?_; rintro e w2 hm; obtain ⟨A, n, c, rfl, ho, ht⟩ := hm.of HT0.out; have HO := zH ho; have HT := zH ht; clear ho ht hm)
 go_ret
 exact ⟨A, n, c, rfl, HO.out, HT.out⟩
theorem bytes4p_walk (s : Nat) (code : Int) (t : List UInt8) (w : World) (hl : t.length ≤ 1000) (ht : onlyOf t hexs = true) (hc : code ≠ 1) :
 Calls Tryz.prog 44 #[fmV ⟨4, (s : Int), code⟩, strV t] w (Made w (rpack (padded t))) := by
 have HC := zH (fun W => packed_walk t W hl ht)
 have h1 : (code == 1) = false := by simpa using hc
 have h2 : (code != 1) = true := by simpa using hc
 clear hl ht hc
 unfold fmV
 obtain ⟨b2, hb2⟩ : ∃ b2, b2 = w.heap.size := ⟨_, rfl⟩
 have HB2 := zH hb2
 go_enter Tryz.func44, Tryz.ntmps44
 go_upto_region 1 with fail
 have hb0 := Blk.new w 49 #[.int .i64 4, .int .i64 (s : Int), .int .i64 code]
 have ht0 := (Turn.refl nowhere w).alloc (.cells #[.int .i64 4, .int .i64 (s : Int), .int .i64 code] 49)
 generalize (w.alloc (.cells #[.int .i64 4, .int .i64 (s : Int), .int .i64 code] 49)) = w1 at *
 rw [← hb2] at hb0 ⊢
 have HBK := zH hb0
 have HT0 := zH ht0
 have c0 : w1.cell? ⟨b2, 0, none⟩ = some (.int .i64 4) := hb0.cell 0
 have c2 : w1.cell? ⟨b2, 2, none⟩ = some (.int .i64 code) := hb0.cell 2
 clear hb0 ht0 hb2
 go_wp2_with (go_at_call 73; refine (HC.out _).mono ?_; rintro e w2 hm; obtain ⟨A, n, c, rfl, ho, ht⟩ := hm.of HT0.out; have HO := zH ho; have HT := zH ht; clear ho ht hm)
 go_ret
 exact ⟨A, n, c, rfl, HO.out, HT.out⟩
def FoS (b2 : Nat) (x y z : Int) (W : World) : Prop := Blk W b2 49 #[.int .i64 x, .int .i64 y, .int .i64 z]
theorem FoS.turn {b2 : Nat} {x y z : Int} {W W' : World} (h : FoS b2 x y z W) (ht : Turn nowhere W W') : FoS b2 x y z W' := Blk.turn (F := nowhere) h ht fun e => e
theorem rdigits_len (code : Int) (t : List UInt8) : (rdigits code t).length ≤ t.length + 1 := by
 unfold rdigits
 split
 ·have h1 := rpack_len (padded t)
  have h2 := (padded_two t).2
  unfold padded at h1 ⊢
  split at h1
  ·rename_i h
   rw [if_pos h]
   simpa using h1
  ·rename_i h
   rw [if_neg h]
   omega
 ·unfold rsigns
  split
  ·simp
  ·omega
theorem rsigns_len (code : Int) (t : List UInt8) : (rsigns code t).length = t.length := by
 unfold rsigns
 split
 ·simp
 ·rfl
theorem exec_sto1 {W : World} {a : Act} {o : Oper} {x : Operand} {l : List UInt8} (ho : o.op = .slice 9 x none (some (.const (.int .i64 1))) none) (hx : a.eval x = strV l) (hn : 1 ≤ l.length) : (execOp a.eval o).run Tryz.prog W = .ok (.value (strV (l.take 1))) W :=
 exec_sto (n := 1) ho hx rfl hn
theorem exec_sfrom1 {W : World} {a : Act} {o : Oper} {x : Operand} {l : List UInt8} (ho : o.op = .slice 9 x (some (.const (.int .i64 1))) none none) (hx : a.eval x = strV l) (hn : 1 ≤ l.length) : (execOp a.eval o).run Tryz.prog W = .ok (.value (strV (l.drop 1))) W :=
 exec_sfrom (n := 1) ho hx rfl hn
theorem bytes2_walk (s : Nat) (code : Int) (t : List UInt8) (w : World) (hl : t.length ≤ 99) (ht : onlyOf t dec = true) :
 Calls Tryz.prog 44 #[fmV ⟨2, (s : Int), code⟩, strV t] w (Made w (rdigits code (two t.length) ++ rdigits code t)) := by
 have HC0 := zH (fun W => r2_walk t.length W hl)
 have HC1 := zH (fun W => rdig_walk code (two t.length) W (by rw [two_len]; omega) (two_ok hl).2)
 have HC2 := zH (fun W => rdig_walk code t W (by omega) ht)
 have h1 := rdigits_len code (two t.length)
 have h2 := rdigits_len code t
 rw [two_len] at h1
 have HLS := zH (show (rdigits code (two t.length)).length + (rdigits code t).length ≤ 1000 by omega)
 clear hl ht h1 h2
 generalize rdigits code (two t.length) = l1 at *
 generalize rdigits code t = l2 at *
 unfold fmV
 obtain ⟨b2, hb2⟩ : ∃ b2, b2 = w.heap.size := ⟨_, rfl⟩
 have HB2 := zH hb2
 go_enter Tryz.func44, Tryz.ntmps44
 go_upto_region 1 with fail
 have hb0 := Blk.new w 49 #[.int .i64 2, .int .i64 (s : Int), .int .i64 code]
 have ht0 := (Turn.refl nowhere w).alloc (.cells #[.int .i64 2, .int .i64 (s : Int), .int .i64 code] 49)
 generalize (w.alloc (.cells #[.int .i64 2, .int .i64 (s : Int), .int .i64 code] 49)) = w1 at *
 rw [← hb2] at hb0 ⊢
 have HBK := zH hb0
 have HT0 := zH ht0
 have c0 : w1.cell? ⟨b2, 0, none⟩ = some (.int .i64 2) := hb0.cell 0
 have c2 : w1.cell? ⟨b2, 2, none⟩ = some (.int .i64 code) := hb0.cell 2
 clear hb0 ht0 hb2
 go_upto_region 5 with fail
 have hS0 : FoS b2 2 (s : Int) code w1.drew := HBK.out
 refine wp_region_till (FoS b2 2 (s : Int) code) 11 (by kernel_rfl) ?_
 refine till_pure (i := 0) (v := .pointer (some ⟨b2, 2, none⟩)) rfl (by kernel_rfl) (by kernel_rfl) (fun _ _ _ h => h) (.inl ⟨by rfl, fun W hW => exec_field (off := 0) (d := 2) rfl rfl (by kernel_rfl)⟩) hS0 ?_
 simp only [zz]
 refine tT (i := 1) (v := .int .i64 code) rfl (by kernel_rfl) (by kernel_rfl) (fun W hW => exec_load1 rfl rfl (by kernel_rfl) (hW.cell 2)) hS0 ?_
 simp only [zz]
 refine till_pure (i := 2) (v := strV t) rfl (by kernel_rfl) (by kernel_rfl) (fun _ _ _ h => h) (.inl ⟨by rfl, fun W hW => exec_move rfl rfl⟩) hS0 ?_
 simp only [zz]
 refine till_pure (i := 3) (v := .int .i64 (t.length : Int)) rfl (by kernel_rfl) (by kernel_rfl) (fun _ _ _ h => h) (.inl ⟨by rfl, fun W hW => exec_slen rfl rfl⟩) hS0 ?_
 simp only [zz]
 refine till_pure (i := 6) (v := .pointer (some ⟨b2, 2, none⟩)) rfl (by kernel_rfl) (by kernel_rfl) (fun _ _ _ h => h) (.inl ⟨by rfl, fun W hW => exec_field (off := 0) (d := 2) rfl rfl (by kernel_rfl)⟩) hS0 ?_
 simp only [zz]
 refine tT (i := 7) (v := .int .i64 code) rfl (by kernel_rfl) (by kernel_rfl) (fun W hW => exec_load1 rfl rfl (by kernel_rfl) (hW.cell 2)) hS0 ?_
 simp only [zz]
 refine till_pure (i := 8) (v := strV t) rfl (by kernel_rfl) (by kernel_rfl) (fun _ _ _ h => h) (.inl ⟨by rfl, fun W hW => exec_move rfl rfl⟩) hS0 ?_
 simp only [zz]
 refine till_step (i := 4) (by kernel_rfl) rfl rfl ?_
 intro K1 HK1
 go_wp2_with fail
 refine (HC0.out w1.drew).mono ?_
 rintro e w2 ⟨rfl, ht2⟩
 have hS2 : FoS b2 2 (s : Int) code w2 := hS0.turn ht2
 refine HK1.out _ _ ⟨fun _ => hS2, ?_⟩
 clear HK1
 refine till_step (i := 5) (by kernel_rfl) rfl rfl ?_
 intro K1 HK1
 go_wp2_with fail
 refine (HC1.out w2).mono ?_
 rintro e w3 ⟨A1, n1, c1, rfl, ho1, ht3⟩
 have hS3 : FoS b2 2 (s : Int) code w3 := hS2.turn ht3
 refine HK1.out _ _ ⟨fun _ => hS3, ?_⟩
 clear HK1
 refine till_step (i := 9) (by kernel_rfl) rfl rfl ?_
 intro K1 HK1
 go_wp2_with fail
 refine (HC2.out w3).mono ?_
 rintro e w4 ⟨A2, n2, c2, rfl, ho2, ht4⟩
 have hS4 : FoS b2 2 (s : Int) code w4 := hS3.turn ht4
 refine HK1.out _ _ ⟨fun _ => hS4, ?_⟩
 clear HK1
 refine till_step (i := 10) (by kernel_rfl) rfl rfl ?_
 intro K1 HK1
 have ho1' : Own w4 w1.heap.size 5 (.slice A1 n1 c1) l1 := own_lower (Own.below ho1 (ht4.below (Nat.le_refl _) (fun _ _ e=>e)) (Nat.le_refl _)) ht2.size
 obtain ⟨hb2, hn2, hz2⟩ := own_bs ho2
 have hle : w1.heap.size ≤ w4.heap.size := Nat.le_trans ht2.size (Nat.le_trans ht3.size ht4.size)
 refine wp_append_bytes w4 _ _ _ rfl w1.heap.size 5 byteInfo Tryz.underlying26 _ _ rfl ho1' _ n2 c2 l2 rfl hb2 hz2 (by have := hb2.1; have := HLS.out; omega) hle ?_
 intro v5 w5 ho5 hb5
 have hbl : b2 < w1.heap.size := Blk.lt (w := w1) HBK.out
 have hS5 : FoS b2 2 (s : Int) code w5 := (hb5.block b2 hbl).trans hS4
 refine HK1.out _ _ ⟨fun _ => hS5, ?_⟩
 clear HK1
 simp only [zz]
 obtain ⟨A5, n5, c5, rfl, _⟩ := ho5.form
 have HO5 := zH (own_lower ho5 HT0.out.size)
 have HT5 := zH (turn_below (((HT0.out.drew.trans ht2 fun _ _ e => e).trans ht3 fun _ _ e => e).trans ht4 fun _ _ e => e) (hb5.mono HT0.out.size))
 clear hS0 hS2 hS3 hS4 hS5 ho1 ho2 ho1' ho5 hb5 hb2 hn2 hz2 hle ht2 ht3 ht4 hbl
 refine till_tail 11 rfl (by kernel_rfl) ?_
 go_wp2_with fail
 refine NoPanic.normal ?_
 go_wp2_with fail
 go_ret
 exact ⟨A5, n5, c5, rfl, HO5.out, HT5.out⟩
theorem bytes5_walk (s : Nat) (code : Int) (t : List UInt8) (w : World) (hl : t.length ≤ 99) (h1 : 1 ≤ t.length) (ht : onlyOf (t.drop 1) dec = true) :
 Calls Tryz.prog 44 #[fmV ⟨5, (s : Int), code⟩, strV t] w (Made w (rsigns code (t.take 1) ++ rdigits code (t.drop 1))) := by
 have HT1 := zH h1
 obtain ⟨m, hm⟩ : ∃ m, m = t.take 1 := ⟨_, rfl⟩
 obtain ⟨d, hd⟩ : ∃ d, d = t.drop 1 := ⟨_, rfl⟩
 have hml : m.length ≤ 1 := by rw [hm, List.length_take]; omega
 have hdl : d.length ≤ 99 := by rw [hd, List.length_drop]; omega
 rw [← hm, ← hd]
 rw [← hd] at ht
 have HM := zH hm
 have HD := zH hd
 have HC1 := zH (fun W => signs_walk code m W (by omega))
 have HC2 := zH (fun W => rdig_walk code d W (by omega) ht)
 have h2 := rdigits_len code d
 have h3 := rsigns_len code m
 have HLS := zH (show (rsigns code m).length + (rdigits code d).length ≤ 1000 by omega)
 clear hl ht h1 h2 h3 hm hd hml hdl
 generalize rsigns code m = l1 at *
 generalize rdigits code d = l2 at *
 unfold fmV
 obtain ⟨b2, hb2⟩ : ∃ b2, b2 = w.heap.size := ⟨_, rfl⟩
 have HB2 := zH hb2
 go_enter Tryz.func44, Tryz.ntmps44
 go_upto_region 1 with fail
 have hb0 := Blk.new w 49 #[.int .i64 5, .int .i64 (s : Int), .int .i64 code]
 have ht0 := (Turn.refl nowhere w).alloc (.cells #[.int .i64 5, .int .i64 (s : Int), .int .i64 code] 49)
 generalize (w.alloc (.cells #[.int .i64 5, .int .i64 (s : Int), .int .i64 code] 49)) = w1 at *
 rw [← hb2] at hb0 ⊢
 have HBK := zH hb0
 have HT0 := zH ht0
 have c0 : w1.cell? ⟨b2, 0, none⟩ = some (.int .i64 5) := hb0.cell 0
 have c2 : w1.cell? ⟨b2, 2, none⟩ = some (.int .i64 code) := hb0.cell 2
 clear hb0 ht0 hb2
 go_upto_region 7 with fail
 have hS0 : FoS b2 5 (s : Int) code w1.drew := HBK.out
 refine wp_region_till (FoS b2 5 (s : Int) code) 11 (by kernel_rfl) ?_
 refine till_pure (i := 0) (v := .pointer (some ⟨b2, 2, none⟩)) rfl (by kernel_rfl) (by kernel_rfl) (fun _ _ _ h => h) (.inl ⟨by rfl, fun W hW => exec_field (off := 0) (d := 2) rfl rfl (by kernel_rfl)⟩) hS0 ?_
 simp only [zz]
 refine tT (i := 1) (v := .int .i64 code) rfl (by kernel_rfl) (by kernel_rfl) (fun W hW => exec_load1 rfl rfl (by kernel_rfl) (hW.cell 2)) hS0 ?_
 simp only [zz]
 refine till_pure (i := 2) (v := strV t) rfl (by kernel_rfl) (by kernel_rfl) (fun _ _ _ h => h) (.inl ⟨by rfl, fun W hW => exec_move rfl rfl⟩) hS0 ?_
 simp only [zz]
 refine till_pure (i := 3) (v := strV m) rfl (by kernel_rfl) (by kernel_rfl) (fun _ _ _ h => h) (.inl ⟨by rfl, fun W hW => by rw [HM.out]; exact exec_sto1 rfl rfl HT1.out⟩) hS0 ?_
 simp only [zz]
 refine till_pure (i := 5) (v := .pointer (some ⟨b2, 2, none⟩)) rfl (by kernel_rfl) (by kernel_rfl) (fun _ _ _ h => h) (.inl ⟨by rfl, fun W hW => exec_field (off := 0) (d := 2) rfl rfl (by kernel_rfl)⟩) hS0 ?_
 simp only [zz]
 refine tT (i := 6) (v := .int .i64 code) rfl (by kernel_rfl) (by kernel_rfl) (fun W hW => exec_load1 rfl rfl (by kernel_rfl) (hW.cell 2)) hS0 ?_
 simp only [zz]
 refine till_pure (i := 7) (v := strV t) rfl (by kernel_rfl) (by kernel_rfl) (fun _ _ _ h => h) (.inl ⟨by rfl, fun W hW => exec_move rfl rfl⟩) hS0 ?_
 simp only [zz]
 refine till_pure (i := 8) (v := strV d) rfl (by kernel_rfl) (by kernel_rfl) (fun _ _ _ h => h) (.inl ⟨by rfl, fun W hW => by rw [HD.out]; exact exec_sfrom1 rfl rfl HT1.out⟩) hS0 ?_
 simp only [zz]
 have ht2 : Turn nowhere w1.drew w1.drew := Turn.refl _ _
 have hS2 : FoS b2 5 (s : Int) code w1.drew := hS0
 refine till_step (i := 4) (by kernel_rfl) rfl rfl ?_
 intro K1 HK1
 go_wp2_with fail
 refine (HC1.out w1.drew).mono ?_
 rintro e w3 ⟨A1, n1, c1, rfl, ho1, ht3⟩
 have hS3 : FoS b2 5 (s : Int) code w3 := hS2.turn ht3
 refine HK1.out _ _ ⟨fun _ => hS3, ?_⟩
 clear HK1
 refine till_step (i := 9) (by kernel_rfl) rfl rfl ?_
 intro K1 HK1
 go_wp2_with fail
 refine (HC2.out w3).mono ?_
 rintro e w4 ⟨A2, n2, c2, rfl, ho2, ht4⟩
 have hS4 : FoS b2 5 (s : Int) code w4 := hS3.turn ht4
 refine HK1.out _ _ ⟨fun _ => hS4, ?_⟩
 clear HK1
 refine till_step (i := 10) (by kernel_rfl) rfl rfl ?_
 intro K1 HK1
 have ho1' : Own w4 w1.heap.size 5 (.slice A1 n1 c1) l1 := own_lower (Own.below ho1 (ht4.below (Nat.le_refl _) (fun _ _ e=>e)) (Nat.le_refl _)) ht2.size
 obtain ⟨hb2, hn2, hz2⟩ := own_bs ho2
 have hle : w1.heap.size ≤ w4.heap.size := Nat.le_trans ht2.size (Nat.le_trans ht3.size ht4.size)
 refine wp_append_bytes w4 _ _ _ rfl w1.heap.size 5 byteInfo Tryz.underlying26 _ _ rfl ho1' _ n2 c2 l2 rfl hb2 hz2 (by have := hb2.1; have := HLS.out; omega) hle ?_
 intro v5 w5 ho5 hb5
 have hbl : b2 < w1.heap.size := Blk.lt (w := w1) HBK.out
 have hS5 : FoS b2 5 (s : Int) code w5 := (hb5.block b2 hbl).trans hS4
 refine HK1.out _ _ ⟨fun _ => hS5, ?_⟩
 clear HK1
 simp only [zz]
 obtain ⟨A5, n5, c5, rfl, _⟩ := ho5.form
 have HO5 := zH (own_lower ho5 HT0.out.size)
 have HT5 := zH (turn_below (((HT0.out.drew.trans ht2 fun _ _ e => e).trans ht3 fun _ _ e => e).trans ht4 fun _ _ e => e) (hb5.mono HT0.out.size))
 clear hS0 hS2 hS3 hS4 hS5 ho1 ho2 ho1' ho5 hb5 hb2 hn2 hz2 hle ht2 ht3 ht4 hbl
 refine till_tail 11 rfl (by kernel_rfl) ?_
 go_wp2_with fail
 refine NoPanic.normal ?_
 go_wp2_with fail
 go_ret
 exact ⟨A5, n5, c5, rfl, HO5.out, HT5.out⟩
theorem upc_nat (b : UInt8) : ((upc b).toNat : Int) = if 97 ≤ b.toNat then (b.toNat : Int) - 32 else (b.toNat : Int) := by
 have h := byte_of (P := fun b => (upc b).toNat = if 97 ≤ b.toNat then b.toNat - 32 else b.toNat) (by decide +kernel) b
 rw [h]
 split <;> omega
theorem bytes4a_walk (s : Nat) (t : List UInt8) (w : World) (hl : t.length ≤ 1000) :
 Calls Tryz.prog 44 #[fmV ⟨4, (s : Int), 1⟩, strV t] w (Made w (t.map upc)) := by
 have HL := zH hl
 clear hl
 obtain ⟨n, hn⟩ : ∃ n, n = t.length := ⟨_, rfl⟩
 have HN := zH hn
 clear hn
 unfold fmV
 obtain ⟨b2, hb2⟩ : ∃ b2, b2 = w.heap.size := ⟨_, rfl⟩
 have HB2 := zH hb2
 go_enter Tryz.func44, Tryz.ntmps44
 go_upto_region 1 with fail
 have hb0 := Blk.new w 49 #[.int .i64 4, .int .i64 (s : Int), .int .i64 1]
 have ht0 := (Turn.refl nowhere w).alloc (.cells #[.int .i64 4, .int .i64 (s : Int), .int .i64 1] 49)
 generalize (w.alloc (.cells #[.int .i64 4, .int .i64 (s : Int), .int .i64 1] 49)) = w1 at *
 rw [← hb2] at hb0 ⊢
 have HBK := zH hb0
 have HT0 := zH ht0
 have c0 : w1.cell? ⟨b2, 0, none⟩ = some (.int .i64 4) := hb0.cell 0
 have c2 : w1.cell? ⟨b2, 2, none⟩ = some (.int .i64 1) := hb0.cell 2
 clear hb0 ht0 hb2
 go_upto_region 12 with fail
 have hown0 := Own.empty w1 w1.heap.size 5 (Nat.le_refl _)
 have hbel0 : Below w1.heap.size w1 (w1.alloc (.cells #[] 5)) := (Below.refl _ w1).alloc (Nat.le_refl _) _
 obtain ⟨B, hB⟩ : ∃ B, B = w1.heap.size := ⟨_, rfl⟩
 rw [← hB] at hown0 hbel0
 have HB := zH hB
 clear hB
 refine wp_region_lit ?_
 refine wR (v := _) rfl (exec_make0 rfl) ?_
 simp only [zz]
 refine wA (.slice (some ⟨w1.heap.size, 0, none⟩) 0 0) ?_
 simp only [zz]
 rw [← HB.out]
 generalize (w1.alloc (.cells #[] 5)) = w2 at *
 have HO0 := zH hown0
 have HB0 := zH hbel0
 clear hown0 hbel0 c0 c2
 go_wp2_with fail
 go_loopg [5, 6] n (fun gk b i wr => ∃ (k : Nat) (A : Option Addr) (m c : Nat), k + gk = n ∧ i = .int .i64 (k : Int) ∧ b = .slice A m c ∧ Own wr B 5 (.slice A m c) ((t.take k).map upc) ∧ Below B w1 wr)
 case atStart => exact ⟨0, some ⟨B, 0, none⟩, 0, 0, by omega, rfl, rfl, HO0.out, HB0.out⟩
 case round =>
  obtain ⟨k, A, m, c, hkl, rfl, rfl, hown, hbel⟩ := hrel
  have HKL := zH hkl
  have HO := zH hown
  have HE := zH hbel
  clear hkl hown hbel
  go_upto_region 14 with fail
  refine wp_region_lit ?_
  refine wM (.int .i64 (k : Int)) ?_
  simp only [zz]
  refine wM (strV t) ?_
  simp only [zz]
  refine wR (v := .int .i64 (n : Int)) (w' := wr) rfl (by rw [HN.out]; exact exec_slen rfl rfl) ?_
  simp only [zz]
  by_cases hlt : k < n
  ·refine wR (v := .bool true) (w' := wr) rfl (exec_lss rfl rfl rfl (by omega)) ?_
   simp only [zz]
   have HLT := zH hlt
   have HKT := zH (show k < t.length by rw [← HN.out]; exact hlt)
   clear hlt
   have htk : (t.take (k + 1)).map upc = (t.take k).map upc ++ [upc (t.getD k 0)] := by rw [take_one HKT.out, List.map_append]; rfl
   have hz := upc_nat (t.getD k 0)
   have HTK := zH htk
   clear htk
   go_upto_region 16 with fail
   refine wp_region_lit ?_
   refine wM (strV t) ?_
   simp only [zz]
   refine wM (.int .i64 (k : Int)) ?_
   simp only [zz]
   refine wR (v := .int .u8 ((t.getD k 0).toNat : Int)) (w' := wr) rfl (exec_sidx rfl rfl rfl HKT.out) ?_
   simp only [zz]
   generalize upc (t.getD k 0) = z at *
   generalize t.getD k 0 = y at *
   have hyb := y.toNat_lt
   by_cases h97 : 97 ≤ y.toNat
   all_goals
    first
     | (rw [if_pos h97] at hz; have v1 : (97 : Int) ≤ (y.toNat : Int) := (by omega); have v2 : IntKind.u8.wrap ((y.toNat : Int) - 97) = (y.toNat : Int) - 97 := (by rw [wrapu8]; omega); have v3 : IntKind.u8.wrap ((y.toNat : Int) - 97 + 65) = (z.toNat : Int) := (by rw [wrapu8]; omega))
     | (rw [if_neg h97] at hz; have v1 : ¬ ((97 : Int) ≤ (y.toNat : Int)) := (by omega); have v2 : True := trivial; have v3 : True := trivial; obtain rfl : z = y := UInt8.toNat_inj.1 (by omega))
    clear hz h97
    go_upto_region 19 with fail
    clear v1 v2 v3
    refine wp_region_lit ?_
    refine wM (.slice A m c) ?_
    simp only [zz]
    refine wM (.int .u8 (z.toNat : Int)) ?_
    simp only [zz]
    refine wR (v := _) rfl (exec_one (z := z) rfl rfl) ?_
    simp only [zz]
    have hone := bs_blk (Blk.new wr 5 (bcs [z]).toArray) (n := 1) rfl (by unfold maxLen; omega)
    have hown1 : Own (wr.alloc (.cells (bcs [z]).toArray 5)) B 5 (.slice A m c) ((t.take k).map upc) := HO.out.alloc _
    refine wpList_append_bytes _ rfl _ _ _ rfl B 5 byteInfo Tryz.underlying26 _ _ rfl hown1 _ 1 1 [z] rfl hone (fun h => by cases h) (by rw [List.length_map, List.length_take]; have := HN.out; have := HL.out; omega) (by have := HE.out.size; have := HB.out; simp; omega) ?_
    intro v2 w3 ho2 hb2
    simp only [zz]
    obtain ⟨A2, m2, c2, rfl, _⟩ := ho2.form
    have HO2 := zH ho2
    have HB2 := zH hb2
    clear ho2 hb2 hone hown1 hyb
    have b0 : (0 : Int) ≤ (k : Int) := by omega
    have b1 : (k : Int) ≤ 1000 := by have := HLT.out; have := HN.out; have := HL.out; omega
    go_wp2_with fail
    go_roundg (gk - 1)
    case measure => have := HKL.out; have := HLT.out; omega
    case rel =>
     refine ⟨k + 1, A2, m2, c2, by have := HKL.out; have := HLT.out; omega, by go_num, rfl, ?_, (HE.out.alloc (by have := HE.out.size; have := HB.out; omega) _).trans HB2.out⟩
     rw [HTK.out]
     exact HO2.out
  ·refine wR (v := .bool false) (w' := wr) rfl (exec_nlss rfl rfl rfl (by omega)) ?_
   simp only [zz]
   have hkn : t.take k = t := List.take_of_length_le (by have := HKL.out; have := HN.out; omega)
   have ho := HO.out
   rw [hkn] at ho
   have HOO := zH ho
   have HTW := zH (turn_below HT0.out (HE.out.mono (by rw [HB.out]; exact HT0.out.size)))
   clear hlt hkn ho
   go_wp2_with fail
   go_ret
   exact ⟨A, m, c, rfl, own_lower HOO.out (by rw [HB.out]; exact HT0.out.size), HTW.out⟩
theorem bytes_walk {k s c : Nat} {t : List UInt8} (w : World) (hk : 1 ≤ k ∧ k ≤ 5) (hc : 1 ≤ c ∧ c ≤ 3) (hs : 1 ≤ s ∧ s ≤ 64) (hr : (nf k s c).right t = true) :
 Calls Tryz.prog 44 #[fmV (nf k s c), strV t] w (Made w ((nf k s c).put t)) := by
 rw [← rbytes_put hk hc hs hr]
 have hkk : k = 1 ∨ k = 2 ∨ k = 3 ∨ k = 4 ∨ k = 5 := by omega
 rcases hkk with rfl | rfl | rfl | rfl | rfl
 ·rw [right_nl (by decide)] at hr
  obtain ⟨h1, h2⟩ := right_one (p := ⟨s, dec, _⟩) hr
  have h2' : t.length = s := h2
  exact bytes1_walk s (c : Int) t w (by omega) h1
 ·obtain ⟨hl, hr2⟩ := ll_right hr
  obtain ⟨h1, h2⟩ := right_one (p := ⟨t.length, dec, _⟩) hr2
  exact bytes2_walk s (c : Int) t w (by omega) h1
 ·rw [right_nl (by decide)] at hr
  obtain ⟨h1, h2⟩ := right_one (p := ⟨s, sgn, _⟩) hr
  have h2' : t.length = s := h2
  exact bytes3_walk s (c : Int) t w (by omega)
 ·rw [right_nl (by decide)] at hr
  obtain ⟨h1, h2⟩ := right_one (p := ⟨2 * s, hexs, _⟩) hr
  have h2' : t.length = 2 * s := h2
  by_cases h : c = 1
  ·subst h
   exact bytes4a_walk s t w (by omega)
  ·have e : rbytes (nf 4 s c) t = rpack (padded t) := by
    show (if (c : Int) ≠ 1 then rpack (padded t) else t.map upc) = _
    rw [if_pos (by omega)]
   rw [e]
   exact bytes4p_walk s (c : Int) t w (by omega) h1 (by omega)
 ·rw [right_nl (by decide)] at hr
  obtain ⟨h1, h2, h3⟩ := right_two (p := ⟨1, mk, _⟩) (q := ⟨s, dec, _⟩) hr
  obtain ⟨h4, h5⟩ := right_one h3
  have h1' : 1 ≤ t.length := h1
  have h5' : (t.drop 1).length = s := h5
  rw [List.length_drop] at h5'
  exact bytes5_walk s (c : Int) t w (by omega) h1' h4
theorem rchars_snoc (f : Fm) : ∀ (k i : Nat) (b : List UInt8), k < b.length → rchars f i (b.take (k + 1)) = rchars f i (b.take k) ++ rch f (i + k) (b.getD k 0)
 | 0, i, x :: r, _ => by
   show rch f i x ++ [] = [] ++ rch f i x
   simp
 | k + 1, i, x :: r, h => by
   show rch f i x ++ rchars f (i + 1) (r.take (k + 1)) = (rch f i x ++ rchars f (i + 1) (r.take k)) ++ _
   rw [rchars_snoc f k (i + 1) r (by simp at h; omega), List.append_assoc, List.getD_cons_succ, show i + 1 + k = i + (k + 1) from by omega]
 | _, _, [], h => by simp at h
theorem rch_len (f : Fm) (i : Nat) (c : UInt8) : (rch f i c).length ≤ 2 := by
 unfold rch
 split
 ·simp
 ·split
  ·simp
  ·split <;> simp
theorem rchars_len (f : Fm) : ∀ (b : List UInt8) (i : Nat), (rchars f i b).length ≤ 2 * b.length
 | [], _ => Nat.le_refl _
 | c :: r, i => by
   have h1 := rch_len f i c
   have h2 := rchars_len f r (i + 1)
   show (rch f i c ++ rchars f (i + 1) r).length ≤ _
   rw [List.length_append, List.length_cons]
   omega
def unf (c : UInt8) (j : Nat) : UInt8 := (List.range j).foldl (fun f s => if sgn.contains (UInt8.ofNat s) && ebc (UInt8.ofNat s) == c then UInt8.ofNat s else f) 0
theorem unf_succ (c : UInt8) (j : Nat) : unf c (j + 1) = if sgn.contains (UInt8.ofNat j) && ebc (UInt8.ofNat j) == c then UInt8.ofNat j else unf c j := by
 unfold unf
 rw [List.range_succ, List.foldl_append]
 rfl
theorem unf_all (c : UInt8) : unf c 128 = unebc c := rfl
def TextP (w : World) (r : List UInt8 × Bool) (e : Ending) (w' : World) : Prop := e = .returned (.tuple #[strV r.1, .bool r.2]) ∧ Turn nowhere w w'
theorem exec_q16 {a : Act} {o : Oper} {W : World} {x : Operand} {c : UInt8} (ho : o.op = .binOp .quo 5 x (.const (.int .u8 16)) 5) (hx : a.eval x = .int .u8 (c.toNat : Int)) : (execOp a.eval o).run Tryz.prog W = .ok (.value (.int .u8 ((c.toNat / 16 : Nat) : Int))) W := by
 have hc := c.toNat_lt
 have h2 : IntKind.u8.wrap (Int.tdiv (c.toNat : Int) 16) = ((c.toNat / 16 : Nat) : Int) := by
  rw [wrapu8, Int.tdiv_eq_ediv_of_nonneg (by omega)]
  omega
 unfold execOp
 simp only [ho, hx]
 go_simp
 try exact h2
theorem exec_r16 {a : Act} {o : Oper} {W : World} {x : Operand} {c : UInt8} (ho : o.op = .binOp .rem 5 x (.const (.int .u8 16)) 5) (hx : a.eval x = .int .u8 (c.toNat : Int)) : (execOp a.eval o).run Tryz.prog W = .ok (.value (.int .u8 ((c.toNat % 16 : Nat) : Int))) W := by
 have hc := c.toNat_lt
 have h2 : Int.tmod (c.toNat : Int) 16 = ((c.toNat % 16 : Nat) : Int) := rfl
 unfold execOp
 simp only [ho, hx]
 go_simp
 try exact h2
theorem exec_iu8 {a : Act} {o : Oper} {W : World} {x : Operand} {j : Nat} (hj : j < 256) (ho : o.op = .convert 3 5 x) (hx : a.eval x = .int .i64 (j : Int)) : (execOp a.eval o).run Tryz.prog W = .ok (.value (.int .u8 ((UInt8.ofNat j).toNat : Int))) W := by
 have h2 : IntKind.u8.wrap (j : Int) = ((UInt8.ofNat j).toNat : Int) := by
  rw [wrapu8, UInt8.toNat_ofNat']
  omega
 unfold execOp
 simp only [ho, hx]
 go_simp
 try exact h2
theorem exec_u8eq {a : Act} {o : Oper} {W : World} {x y : Operand} {u v : UInt8} (ho : o.op = .binOp .eql 5 x y 5) (hx : a.eval x = .int .u8 (u.toNat : Int)) (hy : a.eval y = .int .u8 (v.toNat : Int)) : (execOp a.eval o).run Tryz.prog W = .ok (.value (.bool (u == v))) W := by
 have h2 : (u == v) = ((u.toNat : Int) == (v.toNat : Int)) := by
  rw [Bool.eq_iff_iff, beq_iff_eq, beq_iff_eq]
  constructor
  ·rintro rfl
   rfl
  ·intro h
   exact UInt8.toNat_inj.1 (by omega)
 rw [h2]
 unfold execOp
 simp only [ho, hx, hy]
 go_simp
theorem exec_sfromK {W : World} {a : Act} {o : Oper} {x : Operand} {l : List UInt8} (ho : o.op = .slice 9 x (some (.const (.int .i64 2))) none none) (hx : a.eval x = strV l) (hn : 2 ≤ l.length) : (execOp a.eval o).run Tryz.prog W = .ok (.value (strV (l.drop 2))) W :=
 exec_sfrom (n := 2) ho hx rfl hn
theorem exec_bfrom {a : Act} {o : Oper} {x y : Operand} {A : Option Addr} {n c k : Nat} {l : List UInt8} {W : World} (ho : o.op = .slice 26 x (some y) none none) (hx : a.eval x = .slice A n c) (hy : a.eval y = .int .i64 (k : Int)) (hk : k ≤ n) (hc : n ≤ c) (hb : Bs W A n l) (hz : A = none → c = 0) :
 ∃ A', (execOp a.eval o).run Tryz.prog W = .ok (.value (.slice A' (n - k) (c - k))) W ∧ Bs W A' (n - k) (l.drop k) ∧ (A' = none → c - k = 0) := by
 have h := run_slice_l (P := Tryz.prog) (w := W) 26 A n c Tryz.underlying26 .i64 (k : Int) (by omega) (by omega)
 have hs : (sizeOf (Tryz.prog.elem 26)).run Tryz.prog W = .ok 1 W := by kernel_rfl
 rw [Int.toNat_natCast, hs] at h
 obtain ⟨h1, h2, h3⟩ := hb
 have hrun : ∀ v, sliced A k n c 1 = v → (execOp a.eval o).run Tryz.prog W = .ok (.value v) W := by
  intro v hv
  rw [← hv]
  unfold execOp
  simp only [ho, Option.map, hx, hy, run_sliceAt_slice (P := Tryz.prog) W 26 _ _ _ _ Tryz.underlying26, h, Sem.run_bind, Sem.run_pure, Result.andThen_ok]
 have hlen : (l.drop k).length = n - k := by rw [List.length_drop, h1]
 by_cases h0 : 0 < n
 ·obtain ⟨g, off, rfl, hcell⟩ := h3 h0
  by_cases hkc : c = k
  ·have hnk : n - k = 0 := by omega
   refine ⟨some ⟨g, off, none⟩, hrun _ (by unfold sliced; rw [if_pos hkc]), ⟨hlen, Nat.le_trans (Nat.sub_le _ _) h2, fun hh => ?_⟩, fun e => by cases e⟩
   exfalso
   rw [hnk] at hh
   exact absurd hh (by decide)
  ·refine ⟨some ⟨g, off + k, none⟩, hrun _ (by unfold sliced; rw [if_neg hkc, Nat.mul_one]; simp only [Option.map_some, add_nat]), ⟨hlen, Nat.le_trans (Nat.sub_le _ _) h2, fun hh => ⟨g, off + k, rfl, fun i hi => ?_⟩⟩, fun e => by cases e⟩
   rw [Nat.add_assoc, hcell (k + i) (by omega)]
   congr 3
   simp only [List.getD_eq_getElem?_getD, List.getElem?_drop]
 ·have hn0 : n = 0 := by omega
  have hk0 : k = 0 := by omega
  subst hn0 hk0
  refine ⟨A, hrun _ (by unfold sliced; cases A <;> simp [Addr.add]), ⟨hlen, Nat.le_trans (Nat.sub_le _ _) h2, fun hh => by omega⟩, fun e => by rw [hz e]⟩
theorem exec_ieq {a : Act} {o : Oper} {W : World} {x y : Operand} {i j : Int} (ho : o.op = .binOp .eql 3 x y 3) (hx : a.eval x = .int .i64 i) (hy : a.eval y = .int .i64 j) {r : Bool} (h : (i == j) = r) : (execOp a.eval o).run Tryz.prog W = .ok (.value (.bool r)) W := by
 subst h
 unfold execOp
 simp only [ho, hx, hy]
 go_simp
theorem exec_ineq {a : Act} {o : Oper} {W : World} {x y : Operand} {i j : Int} (ho : o.op = .binOp .neq 3 x y 3) (hx : a.eval x = .int .i64 i) (hy : a.eval y = .int .i64 j) {r : Bool} (h : (i != j) = r) : (execOp a.eval o).run Tryz.prog W = .ok (.value (.bool r)) W := by
 subst h
 unfold execOp
 simp only [ho, hx, hy]
 go_simp
theorem exec_pickT {P : Program} {a : Act} {o : Oper} {W : World} {c x y : Operand} {v : Value} (ho : o.op = .pick c x y) (hc : a.eval c = .bool true) (hx : a.eval x = v) : (execOp a.eval o).run P W = .ok (.value v) W := by
 unfold execOp
 simp [ho, hc, hx, asBool, Result.andThen]
theorem exec_pickF {P : Program} {a : Act} {o : Oper} {W : World} {c x y : Operand} {v : Value} (ho : o.op = .pick c x y) (hc : a.eval c = .bool false) (hy : a.eval y = v) : (execOp a.eval o).run P W = .ok (.value v) W := by
 unfold execOp
 simp [ho, hc, hy, asBool, Result.andThen]
theorem exec_iadd {a : Act} {o : Oper} {W : World} {x y : Operand} {i j r : Int} (ho : o.op = .binOp .add 3 x y 3) (hx : a.eval x = .int .i64 i) (hy : a.eval y = .int .i64 j) (h : i + j = r) (hb : -9223372036854775808 ≤ r ∧ r ≤ 9223372036854775807) : (execOp a.eval o).run Tryz.prog W = .ok (.value (.int .i64 r)) W := by
 have hw : IntKind.i64.wrap r = r := by rw [IntKind.wrap_i64]; omega
 unfold execOp
 simp only [ho, hx, hy]
 go_simp
 try exact hw
theorem exec_isub {a : Act} {o : Oper} {W : World} {x y : Operand} {i j r : Int} (ho : o.op = .binOp .sub 3 x y 3) (hx : a.eval x = .int .i64 i) (hy : a.eval y = .int .i64 j) (h : i - j = r) (hb : -9223372036854775808 ≤ r ∧ r ≤ 9223372036854775807) : (execOp a.eval o).run Tryz.prog W = .ok (.value (.int .i64 r)) W := by
 have hw : IntKind.i64.wrap r = r := by rw [IntKind.wrap_i64]; omega
 unfold execOp
 simp only [ho, hx, hy]
 go_simp
 try exact hw
theorem size_u8 : (Tryz.prog.info? 5).map (·.size) = some 1 := by kernel_rfl
theorem bfrom_all {A : Option Addr} {n c k : Nat} {l : List UInt8} {W : World} (hb : Bs W A n l) (hz : A = none → c = 0) (hc : n ≤ c) (hk : k ≤ n) : ∃ A', (∀ (a : Act) (o : Oper) (x y : Operand), o.op = .slice 26 x (some y) none none → a.eval x = .slice A n c → a.eval y = .int .i64 (k : Int) → (execOp a.eval o).run Tryz.prog W = .ok (.value (.slice A' (n - k) (c - k))) W) ∧ Bs W A' (n - k) (l.drop k) ∧ True := by
 obtain ⟨A', h1, h2, h3⟩ := exec_bfrom (a := { tmps := #[.slice A n c, .int .i64 (k : Int)], defers := [] }) (o := ⟨none, .slice 26 (.tmp 0) (some (.tmp 1)) none none, 0, "", #[], none⟩) rfl rfl rfl hk hc hb hz
 refine ⟨A', fun a o x y ho hx hy => ?_, h2, trivial⟩
 rw [← h1]
 unfold execOp
 simp only [ho, hx, hy, Option.map]
 rfl
theorem rright_any {k s c : Nat} {t : List UInt8} (w : World) (hk : 1 ≤ k ∧ k ≤ 5) (hs : 1 ≤ s ∧ s ≤ 64) (hl : t.length ≤ 1000) :
 Calls Tryz.prog 49 #[fmV (nf k s c), strV t] w fun e w' => e = .returned (.bool ((nf k s c).right t)) ∧ Turn nowhere w w' := rright_walk w (by omega) hs (by omega)
theorem rbytes_any {k s c : Nat} {t : List UInt8} (w : World) (hk : 1 ≤ k ∧ k ≤ 5) (hc : 1 ≤ c ∧ c ≤ 3) (hs : 1 ≤ s ∧ s ≤ 64) (hr : (nf k s c).right t = true) :
 Calls Tryz.prog 44 #[fmV (nf k s c), strV t] w (Made w (rbytes (nf k s c) t)) := by
 rw [rbytes_put hk hc hs hr]
 exact bytes_walk w hk hc hs hr
open Go.ChangeShapes Go.WideShapes Go.ChangeAt
def rowD (r : Rw) : DataW Unit := .agg [.lit (.string r.d), .lit (.string r.h), .lit (.string r.s), .lit (.string r.m)]
theorem rows_datum : (Rows.laid_groat_field_rows : DataW Unit) = .agg [rowD (rws 0), rowD (rws 1), rowD (rws 2), rowD (rws 3)] := rfl
theorem gRows : Tryz.prog.globalNamed "groat/field.rows" = some 12 := by kernel_rfl
theorem gRowsType : (Tryz.prog.globals[12]?).map (·.type) = some 190 := by kernel_rfl
theorem cells_rows : Tryz.prog.cellsOf 190 = 16 := by kernel_rfl
theorem cells_row : Tryz.prog.cellsOf 189 = 4 := by kernel_rfl
theorem list4 {l : List Value} (h : l.length = 4) : ∃ a b c d, l = [a, b, c, d] := by
 match l, h with
 | [a, b, c, d], _ => exact ⟨a, b, c, d, rfl⟩
section
variable {enc : TypeId × Value → Unit} {w : World} {base : Nat} {spare : Nat → Bool} {held : Bool}
theorem str_of {n : Nat} {v : Value} {y : DataW Unit × List MemPlace} {l : List UInt8} (h : DataW.trod enc Tryz.prog w base spare held n 9 [v] = some y) (hy : y.1 = .lit (.string l)) : v = strV l := by
 obtain ⟨s, hc, rfl, _⟩ := DataW.trod_string Tryz.underlying9 h
 injection hc with hc
 injection hy with hy
 injection hy with hy
 rw [hc, ← hy]
 rfl
theorem cells_str : Tryz.prog.cellsOf 9 = 1 := by kernel_rfl
theorem row_of {n : Nat} {cs : List Value} {y : DataW Unit × List MemPlace} {r : Rw} (h : DataW.trod enc Tryz.prog w base spare held n 189 cs = some y) (hy : y.1 = rowD r) : cs = rowV r := by
 obtain ⟨ys, m, _, hx, hl, hyl, hf⟩ := DataW.trod_struct Tryz.underlying189 h
 rw [cells_row] at hl
 obtain ⟨c0, c1, c2, c3, rfl⟩ := list4 hl
 have f0 : DataW.trod enc Tryz.prog w base spare held m 9 (([c0, c1, c2, c3].drop 0).take (Tryz.prog.cellsOf 9)) = ys[0]? := hf 0 _ rfl
 have f1 : DataW.trod enc Tryz.prog w base spare held m 9 (([c0, c1, c2, c3].drop 1).take (Tryz.prog.cellsOf 9)) = ys[1]? := hf 1 _ rfl
 have f2 : DataW.trod enc Tryz.prog w base spare held m 9 (([c0, c1, c2, c3].drop 2).take (Tryz.prog.cellsOf 9)) = ys[2]? := hf 2 _ rfl
 have f3 : DataW.trod enc Tryz.prog w base spare held m 9 (([c0, c1, c2, c3].drop 3).take (Tryz.prog.cellsOf 9)) = ys[3]? := hf 3 _ rfl
 rw [cells_str] at f0 f1 f2 f3
 have hyl4 : ys.length = 4 := hyl
 clear hf hl hyl
 match ys, hyl4 with
 | [y0, y1, y2, y3], _ =>
   have e0 : DataW.trod enc Tryz.prog w base spare held m 9 [c0] = some y0 := f0
   have e1 : DataW.trod enc Tryz.prog w base spare held m 9 [c1] = some y1 := f1
   have e2 : DataW.trod enc Tryz.prog w base spare held m 9 [c2] = some y2 := f2
   have e3 : DataW.trod enc Tryz.prog w base spare held m 9 [c3] = some y3 := f3
   rw [hx] at hy
   unfold rowD at hy
   simp only [List.map_cons, List.map_nil, DataW.agg.injEq, List.cons.injEq, and_true] at hy
   rw [str_of e0 hy.1, str_of e1 hy.2.1, str_of e2 hy.2.2.1, str_of e3 hy.2.2.2]
   rfl
end
theorem rows_of_laid {W : World} {l : List (String × DataW Unit)} (hl : l.filter (fun x => x.1 == "groat/field.rows") = [("groat/field.rows", Rows.laid_groat_field_rows)]) (h : laidMetH Tryz.prog l W) : RowsT W := by
 have h1 := h.filter (fun x => x.1 == "groat/field.rows")
 rw [hl, Go.MakeChecks.laidMetH_plain _ _ _ rfl] at h1
 obtain ⟨ps, ⟨g, t, cs, fuel, p, q, hg, ht, hv, hd, _, _⟩, _⟩ := h1
 obtain rfl := Option.some.inj (gRows.symm.trans hg)
 obtain rfl := Option.some.inj (gRowsType.symm.trans ht)
 rw [rows_datum] at hd
 obtain ⟨xs, m, _, hx, hlen, hxl, hf⟩ := DataW.trod_array Tryz.underlying190 hd
 have hm : xs.map (·.1) = [rowD (rws 0), rowD (rws 1), rowD (rws 2), rowD (rws 3)] := by
  have := congrArg Prod.fst hx
  injection this with this
  exact this.symm
 rw [cells_rows] at hlen
 intro k hk j v hj
 have hfk := hf k hk
 rw [cells_row] at hfk
 have hxk : xs[k]? = some xs[k] := List.getElem?_eq_getElem (by omega)
 rw [hxk] at hfk
 have hdk : xs[k].1 = rowD (rws k) := by
  have h2 := congrArg (fun l => l[k]?) hm
  simp only [List.getElem?_map, hxk, Option.map_some] at h2
  have hkk : k = 0 ∨ k = 1 ∨ k = 2 ∨ k = 3 := by omega
  rcases hkk with rfl | rfl | rfl | rfl <;> simpa using h2
 have hrow := row_of hfk hdk
 have hcell : W.cell? ⟨12, k * 4 + j, none⟩ = cs[k * 4 + j]? := World.var?_cell hg hv (k * 4 + j)
 rw [hcell]
 rw [← hrow] at hj
 have hj4 : j < 4 := by
  have := (List.getElem?_eq_some_iff.1 hj).1
  simp at this
  omega
 rw [List.getElem?_take, if_pos hj4, List.getElem?_drop] at hj
 rw [← Array.getElem?_toList]
 exact hj
theorem pow_datum : (Rows.laid_internal_strconv_uint64pow10 : DataW Unit) = Lib.tabData .u64 Lib.pow10Tab := by kernel_rfl
theorem pow_of_laid {W : World} {l : List (String × DataW Unit)} (hl : l.filter (fun x => x.1 == "internal/strconv.uint64pow10") = [("internal/strconv.uint64pow10", Rows.laid_internal_strconv_uint64pow10)]) (h : laidMetH Tryz.prog l W) : PowT W := by
 have h1 := h.filter (fun x => x.1 == "internal/strconv.uint64pow10")
 rw [hl, Go.MakeChecks.laidMetH_plain _ _ _ rfl, pow_datum] at h1
 exact Lib.tabIs_of_head (t := 232) (e := 135) (n := 20) gPow (by kernel_rfl) Tryz.underlying232 Tryz.underlying135 (by kernel_rfl) (by kernel_rfl) h1
theorem witness_zip {H : Type} {enc : TypeId × Value → H} {C : Checked} {os : Os} {f : FuncId} {fn : Func} {s : OpenSpec} {conds : List PathCond} {apart : Bool} {laid : List (String × DataW Unit)} (modest : Bool) (w0 : World) (args : Array Value) (hos : w0.os = os)
 (hsh : (w0.forCall (fun _ _ => 0) ⟨#[], args, []⟩).Shaped C.prog)
 (hok : Input.okWideB C.prog (w0.forCall (fun _ _ => 0) ⟨#[], args, []⟩) f ⟨#[], args, []⟩ = true)
 (hrow : s.preRow enc C.prog fn conds apart laid (w0.forCall (fun _ _ => 0) ⟨#[], args, []⟩).memory args) :
 ∃ (w : World) (tape : Tape) (i : Input), w.os = os ∧ (w.forCall tape i).Shaped C.prog ∧ i.vars = [] ∧ Input.okWide C.prog (w.forCall tape i) .any w.heap.size f i ∧
  s.preRow enc C.prog fn conds apart laid (w.forCall tape i).memory i.args ∧ ({ modest := modest } : Assume).holds C.prog (lone (Frame.enter C.prog f i.args .normal) [] (w.forCall tape i)) :=
 ⟨w0, fun _ _ => 0, ⟨#[], args, []⟩, hos, hsh, (Input.okWide_of_okWideB (base := 0) hok).1, (Input.okWide_of_okWideB hok).2, hrow, by
  simp only [Assume.holds]
  exact ⟨by simp, by simp, fun _ => Modest.zero, by simp, by simp⟩⟩
end Go.Proofs.YticofobhkmabiaaGreatDoor
