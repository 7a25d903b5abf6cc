/-
  Several texts in one file, in their order:
  - IndexMany in plain data: numbers as keys, and how a step goes through all of them. No conditions.
  - Index: common, step, key of the law: the walks. No conditions.
  - Index: IndexMany: the walk. No conditions.
  - PROOF: groatlaw08: for every input the law IndexMany returns true, and each argument reads as it did. Its conditions are the row's own cells.
-/
import Derived.Test.YtmlkdkbpbleilaaJa4
import Derived.Test.YtmlkdkbpbleilaaJPl0
import Derived.RangeFuncNested
import Derived.RangeFuncBound
import Derived.RangeFuncCalls
import Derived.Test.YtmlkdkbpbleilaaRows
import Derived.WalkKit
import Derived.ProofKit
import Derived.OpenShut
import Derived.ShutString
import Derived.ChangeOld
import Derived.Below
import Derived.SizedLaws
import Derived.LaidMore
import Derived.Deep.DeepHandedRow
import Derived.Deep.DeepWitnessRowRef
import Derived.Lib.LaidTab
import Derived.Lib.SmallJoins
namespace Go.Proofs.Ytmlkdkbpbleilaa
open Ix
set_option linter.unusedVariables false
def kk (n : Nat) : Key := [UInt8.ofNat (97 + n / 676 % 26), UInt8.ofNat (97 + n / 26 % 26), UInt8.ofNat (97 + n % 26)]
theorem kk_byte {x : Nat} (h : x < 26) : (UInt8.ofNat (97 + x)).toNat = 97 + x := by
  rw [UInt8.toNat_ofNat']
  omega
theorem kk_lt {a b : Nat} (hb : b < 17576) (h : a < b) : klt (kk a) (kk b) = true := by
  have e1 := kk_byte (x := a / 676 % 26) (by omega)
  have e2 := kk_byte (x := a / 26 % 26) (by omega)
  have e3 := kk_byte (x := a % 26) (by omega)
  have f1 := kk_byte (x := b / 676 % 26) (by omega)
  have f2 := kk_byte (x := b / 26 % 26) (by omega)
  have f3 := kk_byte (x := b % 26) (by omega)
  unfold kk
  simp only [klt, e1, e2, e3, f1, f2, f3]
  by_cases h1 : 97 + a / 676 % 26 < 97 + b / 676 % 26
  · rw [if_pos h1]
  · rw [if_neg h1, if_neg (by omega)]
    by_cases h2 : 97 + a / 26 % 26 < 97 + b / 26 % 26
    · rw [if_pos h2]
    · rw [if_neg h2, if_neg (by omega), if_pos (by omega)]
theorem kk_of {a b : Nat} (ha : a < 17576) (h : klt (kk a) (kk b) = true) : a < b := by
  rcases Nat.lt_or_ge a b with g | g
  · exact g
  · rcases Nat.lt_or_ge b a with g2 | g2
    · have := klt_as (kk_lt ha g2)
      rw [h] at this
      cases this
    · have e : a = b := by omega
      rw [e, klt_irr] at h
      cases h
theorem kk_inj {a b : Nat} (ha : a < 17576) (hb : b < 17576) (h : kk a = kk b) : a = b := by
  rcases Nat.lt_trichotomy a b with g | g | g
  · exact absurd h (klt_ne (kk_lt hb g))
  · exact g
  · exact absurd h.symm (klt_ne (kk_lt ha g))
theorem kk_len (n : Nat) : (kk n).length = 3 := rfl
/-- the i-th of a walk by steps of s round n -/
def sq (s n i : Nat) : Nat := i * s % n
theorem sq_zero (s n : Nat) : sq s n 0 = 0 := by unfold sq; rw [Nat.zero_mul, Nat.zero_mod]
theorem sq_lt {s n i : Nat} (h : 0 < n) : sq s n i < n := Nat.mod_lt _ h
theorem sq_next (s n i : Nat) : (sq s n i + s) % n = sq s n (i + 1) := by
  unfold sq
  rw [Nat.succ_mul, Nat.mod_add_mod]
theorem sq_le {s n i j : Nat} (hg : Nat.gcd s n = 1) (hj : j < n) (hij : i ≤ j) (h : sq s n i = sq s n j) : i = j := by
  unfold sq at h
  have h1 : (j * s - i * s) % n = 0 := Nat.sub_mod_eq_zero_of_mod_eq h.symm
  have h2 : n ∣ (j - i) * s := by rw [Nat.sub_mul]; exact Nat.dvd_of_mod_eq_zero h1
  have h3 : n ∣ j - i := Nat.Coprime.dvd_of_dvd_mul_right (show Nat.gcd n s = 1 by rw [Nat.gcd_comm]; exact hg) h2
  have h4 := Nat.eq_zero_of_dvd_of_lt h3 (by omega)
  omega
theorem sq_inj {s n i j : Nat} (hg : Nat.gcd s n = 1) (hi : i < n) (hj : j < n) (h : sq s n i = sq s n j) : i = j := by
  rcases Nat.le_total i j with g | g
  · exact sq_le hg hj g h
  · exact (sq_le hg hi g h.symm).symm
theorem lput_mem {k : Key} {v : Int} : ∀ {l : List Pr} {q : Pr}, q ∈ lput k v l → q = (k, v) ∨ q ∈ l
  | [], q, hq => .inl (by simpa [lput] using hq)
  | a :: l, q, hq => by
    have hq : q ∈ (if a.1 = k then (k, v) :: l else if klt k a.1 = true then (k, v) :: a :: l else a :: lput k v l) := hq
    split at hq
    · rcases List.mem_cons.1 hq with h | h
      · exact .inl h
      · exact .inr (List.mem_cons_of_mem _ h)
    · split at hq
      · rcases List.mem_cons.1 hq with h | h
        · exact .inl h
        · exact .inr h
      · rcases List.mem_cons.1 hq with h | h
        · exact .inr (by rw [h]; exact List.mem_cons_self ..)
        · rcases lput_mem h with h | h
          · exact .inl h
          · exact .inr (List.mem_cons_of_mem _ h)
theorem lget_out {k : Key} : ∀ {l : List Pr}, (∀ p ∈ l, p.1 ≠ k) → lget k l = none
  | [], _ => rfl
  | p :: l, h => by
    show (if p.1 = k then _ else lget k l) = none
    rw [if_neg (h p (List.mem_cons_self ..))]
    exact lget_out fun q hq => h q (List.mem_cons_of_mem _ hq)
theorem lget_dropped (k : Key) (l : List Pr) : lget k (ldrop k l) = none :=
  lget_out fun p hp => by
    have := (List.mem_filter.1 hp).2
    simpa using this
def PutTo (s n i : Nat) (l : List Pr) : Prop := Srt l ∧ l.length = i ∧ ∀ p ∈ l, ∃ j, j < i ∧ p = (kk (sq s n j), (sq s n j : Int))
theorem put_none {s n i : Nat} {l : List Pr} (hg : Nat.gcd s n = 1) (hn : n ≤ 600) (hi : i < n) (h : PutTo s n i l) : lget (kk (sq s n i)) l = none :=
  lget_out fun p hp e => by
    obtain ⟨j, hj, rfl⟩ := h.2.2 p hp
    have h1 := sq_lt (s := s) (i := j) (show 0 < n by omega)
    have h2 := sq_lt (s := s) (i := i) (show 0 < n by omega)
    have := sq_inj hg (show j < n by omega) hi (kk_inj (by omega) (by omega) e)
    omega
theorem put_next {s n i : Nat} {l : List Pr} (hg : Nat.gcd s n = 1) (hn : n ≤ 600) (hi : i < n) (h : PutTo s n i l) : PutTo s n (i + 1) (lput (kk (sq s n i)) (sq s n i : Int) l) := by
  refine ⟨lput_srt h.1, ?_, fun p hp => ?_⟩
  · rw [lput_len h.1, put_none hg hn hi h, h.2.1]
    rfl
  · rcases lput_mem hp with rfl | hp
    · exact ⟨i, by omega, rfl⟩
    · obtain ⟨j, hj, e⟩ := h.2.2 p hp
      exact ⟨j, by omega, e⟩
theorem inc_last : ∀ (t : List Nat) (m : Nat), (m :: t).Pairwise (· < ·) → ∃ x ∈ m :: t, m + t.length ≤ x
  | [], m, _ => ⟨m, List.mem_cons_self .., Nat.le_refl _⟩
  | y :: t, m, h => by
    obtain ⟨h1, h2⟩ := List.pairwise_cons.1 h
    obtain ⟨x, hx, hle⟩ := inc_last t y h2
    have := h1 y (List.mem_cons_self ..)
    exact ⟨x, List.mem_cons_of_mem _ hx, by rw [List.length_cons]; omega⟩
theorem inc_all : ∀ (ms : List Nat) (a : Nat), ms.Pairwise (· < ·) → (∀ m ∈ ms, a ≤ m ∧ m < a + ms.length) → ∀ x, a ≤ x → x < a + ms.length → x ∈ ms
  | [], a, _, _, x, h1, h2 => by rw [List.length_nil] at h2; omega
  | m :: t, a, hp, hb, x, h1, h2 => by
    obtain ⟨p1, p2⟩ := List.pairwise_cons.1 hp
    obtain ⟨z, hz, hle⟩ := inc_last t m hp
    have b1 := hb z hz
    have b2 := hb m (List.mem_cons_self ..)
    rw [List.length_cons] at b1 b2 h2
    have hm : m = a := by omega
    by_cases e : x = a
    · rw [e, ← hm]; exact List.mem_cons_self ..
    · refine List.mem_cons_of_mem _ (inc_all t (a + 1) p2 (fun y hy => ?_) x (by omega) (by omega))
      have b3 := hb y (List.mem_cons_of_mem _ hy)
      have b4 := p1 y hy
      rw [List.length_cons] at b3
      omega
/-- what all keys make -/
structure AllIn (n : Nat) (l : List Pr) : Prop where
  srt : Srt l
  len : l.length = n
  of : ∀ p ∈ l, ∃ x, x < n ∧ p = (kk x, (x : Int))
theorem all_of {s n : Nat} {l : List Pr} (h : PutTo s n n l) : AllIn n l :=
  ⟨h.1, h.2.1, fun p hp => by
    obtain ⟨j, hj, e⟩ := h.2.2 p hp
    exact ⟨_, sq_lt (by omega), e⟩⟩
theorem AllIn.mem {n : Nat} {l : List Pr} (h : AllIn n l) (hn : n ≤ 600) {x : Nat} (hx : x < n) : (kk x, (x : Int)) ∈ l := by
  have hp : (l.map fun p => p.2.toNat).Pairwise (· < ·) := by
    rw [List.pairwise_map]
    refine List.Pairwise.imp_of_mem (fun {a b} ha hb e => ?_) h.srt
    obtain ⟨x, hx, rfl⟩ := h.of a ha
    obtain ⟨y, hy, rfl⟩ := h.of b hb
    have := kk_of (by omega) e
    simpa using this
  have hm := inc_all _ 0 hp (fun m hm => by
    obtain ⟨p, hp, rfl⟩ := List.mem_map.1 hm
    obtain ⟨y, hy, rfl⟩ := h.of p hp
    rw [List.length_map, h.len]
    refine ⟨Nat.zero_le _, ?_⟩
    show (y : Int).toNat < 0 + n
    rw [Int.toNat_natCast]
    omega) x (Nat.zero_le _) (by rw [List.length_map, h.len]; omega)
  obtain ⟨p, hp, e⟩ := List.mem_map.1 hm
  obtain ⟨y, hy, rfl⟩ := h.of p hp
  have e : (y : Int).toNat = x := e
  rw [Int.toNat_natCast] at e
  rw [← e]
  exact hp
def DropTo (s n i : Nat) (l : List Pr) : Prop := Srt l ∧ l.length + i = n ∧ ∀ x, x < n → (∀ j, j < i → sq s n j ≠ x) → (kk x, (x : Int)) ∈ l
theorem drop_start {s n : Nat} {l : List Pr} (hn : n ≤ 600) (h : AllIn n l) : DropTo s n 0 l := ⟨h.srt, h.len, fun x hx _ => h.mem hn hx⟩
theorem drop_get {s n i : Nat} {l : List Pr} (hg : Nat.gcd s n = 1) (hi : i < n) (h : DropTo s n i l) : lget (kk (sq s n i)) l = some (sq s n i : Int) :=
  lget_mem h.1 (h.2.2 _ (sq_lt (by omega)) fun j hj e => by have := sq_inj hg (show j < n by omega) hi e; omega)
theorem drop_next1 {s n i : Nat} {l : List Pr} (hg : Nat.gcd s n = 1) (hn : n ≤ 600) (hi : i < n) (h : DropTo s n i l) : DropTo s n (i + 1) (ldrop (kk (sq s n i)) l) := by
  refine ⟨ldrop_srt h.1, ?_, fun x hx hj => ?_⟩
  · have := ldrop_len (k := kk (sq s n i)) h.1
    rw [drop_get hg hi h] at this
    have h2 := h.2.1
    simp at this
    omega
  · refine List.mem_filter.2 ⟨h.2.2 x hx fun j hji => hj j (by omega), ?_⟩
    have h1 := hj i (by omega)
    have h2 := sq_lt (s := s) (i := i) (show 0 < n by omega)
    simp only [bne_iff_ne, ne_eq]
    exact fun e => h1 (kk_inj (by omega) (by omega) e).symm
/-- a range tells all: the keys rise, and each is its number's -/
theorem all_at {n : Nat} {l : List Pr} (h : AllIn n l) (hn : n ≤ 600) {pre : List Pr} {p : Pr} {rest : List Pr} (e : l = pre ++ p :: rest) : ∃ x, x < n ∧ p = (kk x, (x : Int)) ∧ ∀ q, pre.getLast? = some q → q.2 < p.2 := by
  obtain ⟨x, hx, hp⟩ := h.of p (by rw [e]; simp)
  refine ⟨x, hx, hp, fun q hq => ?_⟩
  have hqm : q ∈ pre := List.mem_of_getLast? hq
  obtain ⟨y, hy, hq2⟩ := h.of q (by rw [e]; simp [hqm])
  have hs := h.srt
  rw [e] at hs
  have h1 := (srt_app.1 hs).2.2 q hqm p (List.mem_cons_self ..)
  rw [hp, hq2] at h1
  have := kk_of (by omega) h1
  rw [hp, hq2]
  show (y : Int) < (x : Int)
  omega
end Go.Proofs.Ytmlkdkbpbleilaa

namespace Go.Proofs.Ytmlkdkbpbleilaa
open Go.RowKit
open Ix
set_option linter.unusedVariables false
set_option linter.unusedSimpArgs false
theorem ix_rem {a : Act} {o : Oper} {W : World} {x y : Operand} {n m : Nat} (ho : o.op = .binOp .rem 3 x y 3) (hx : a.eval x = .int .i64 (n : Int)) (hy : a.eval y = .int .i64 (m : Int)) (hm : 0 < m) (hn : n ≤ 9223372036854775807) : (execOp a.eval o).run Try.prog W = .ok (.value (.int .i64 ((n % m : Nat) : Int))) W := by
  have hm1 : (m : Int) ≠ 0 := by omega
  obtain ⟨q, hq⟩ : ∃ q : Nat, q = n % m := ⟨_, rfl⟩
  have hlt : q ≤ n := by rw [hq]; exact Nat.mod_le _ _
  have e : (n : Int).tmod (m : Int) = (q : Int) := by rw [hq]; rfl
  rw [← hq]
  have hw : IntKind.i64.wrap (q : Int) = (q : Int) := by rw [IntKind.wrap_i64]; omega
  unfold execOp
  simp only [ho, hx, hy]
  go_simp
  omega
set_option maxRecDepth 20000 in
set_option maxHeartbeats 4000000 in
theorem common_walk {w : World} {a b : Nat} (ha : a ≤ 100000) (hb : b ≤ 100000) :
    Calls Try.prog 33 #[.int .i64 (a : Int), .int .i64 (b : Int)] w fun e w' => e = .returned (.int .i64 (Nat.gcd a b : Int)) ∧ Turn nowhere w w' := by
  obtain ⟨g, hg⟩ : ∃ g, g = Nat.gcd a b := ⟨_, rfl⟩
  rw [← hg]
  have HA := Lib.hid (And.intro ha (And.intro hb hg))
  clear ha hb hg
  go_enter Try.func33, Try.ntmps33
  go_upto_region 0 with fail
  refine wp_region_lit ?_
  refine wpList_run (v := .int .i64 0) (wanted_none rfl) (gx_assign rfl rfl) ?_
  simp only [Act.put, List.setIfInBounds_toArray, List.set_cons_zero, List.set_cons_succ]
  go_wp2_with fail
  go_loopg [0, 1] b (fun gk av bv wr => ∃ (x y : Nat), av = .int .i64 (x : Int) ∧ bv = .int .i64 (y : Int) ∧ gk = y ∧ x ≤ 100000 ∧ y ≤ 100000 ∧ g = Nat.gcd x y ∧ Turn nowhere w wr)
  case atStart => exact ⟨a, b, rfl, rfl, rfl, HA.out.1, HA.out.2.1, HA.out.2.2, Turn.refl _ _⟩
  obtain ⟨x, y, rfl, rfl, hgk, hx, hy, hgc, htr⟩ := hrel
  have HGK := Lib.hid hgk
  have HX := Lib.hid (And.intro hx hy)
  have HGC := Lib.hid hgc
  have HTR := Lib.hid htr
  clear hgk hx hy hgc htr
  by_cases h0 : 0 < y
  · have HY := Lib.hid h0
    have y1 : (0 : Int) < (y : Int) := by omega
    clear h0
    go_upto_region 1 with fail
    refine wp_region_lit ?_
    refine wpList_run (v := .int .i64 (y : Int)) (wanted_none rfl) (exec_move rfl rfl) ?_
    simp only [Act.put, List.setIfInBounds_toArray, List.set_cons_zero, List.set_cons_succ]
    refine wpList_run (v := .bool true) (wanted_none rfl) (ix_gtr rfl rfl rfl (decide_eq_true y1)) ?_
    simp only [Act.put, List.setIfInBounds_toArray, List.set_cons_zero, List.set_cons_succ]
    go_upto_region 2 with fail
    refine wp_region_alw (fun _ => True) (by kernel_rfl) ?_
    have hS0 := trivial
    refine alw_take (i := 0) (v := .int .i64 (y : Int)) rfl (by kernel_rfl) (by kernel_rfl) (fun _ _ _ h => h) (.inl ⟨by rfl, fun W hW => exec_move rfl rfl⟩) hS0 ?_
    simp only [Act.put, List.setIfInBounds_toArray, List.set_cons_zero, List.set_cons_succ]
    refine alw_take (i := 1) (v := .int .i64 (x : Int)) rfl (by kernel_rfl) (by kernel_rfl) (fun _ _ _ h => h) (.inl ⟨by rfl, fun W hW => exec_move rfl rfl⟩) hS0 ?_
    simp only [Act.put, List.setIfInBounds_toArray, List.set_cons_zero, List.set_cons_succ]
    refine alw_take (i := 2) (v := .int .i64 (y : Int)) rfl (by kernel_rfl) (by kernel_rfl) (fun _ _ _ h => h) (.inl ⟨by rfl, fun W hW => exec_move rfl rfl⟩) hS0 ?_
    simp only [Act.put, List.setIfInBounds_toArray, List.set_cons_zero, List.set_cons_succ]
    refine alw_take (i := 3) (v := .int .i64 ((x % y : Nat) : Int)) rfl (by kernel_rfl) (by kernel_rfl) (fun _ _ _ h => h) (.inl ⟨by rfl, fun W hW => ix_rem (n := x) (m := y) rfl rfl rfl HY.out (by have := HX.out; omega)⟩) hS0 ?_
    simp only [Act.put, List.setIfInBounds_toArray, List.set_cons_zero, List.set_cons_succ]
    refine alw_take (i := 4) (v := .int .i64 (y : Int)) rfl (by kernel_rfl) (by kernel_rfl) (fun _ _ _ h => h) (.inl ⟨by rfl, fun W hW => gx_assign rfl rfl⟩) hS0 ?_
    simp only [Act.put, List.setIfInBounds_toArray, List.set_cons_zero, List.set_cons_succ]
    refine alw_take (i := 5) (v := .int .i64 ((x % y : Nat) : Int)) rfl (by kernel_rfl) (by kernel_rfl) (fun _ _ _ h => h) (.inl ⟨by rfl, fun W hW => gx_assign rfl rfl⟩) hS0 ?_
    simp only [Act.put, List.setIfInBounds_toArray, List.set_cons_zero, List.set_cons_succ]
    refine alw_done rfl ?_
    refine NoPanic.normal ?_
    clear hS0
    try simp only [Act.put, List.setIfInBounds_toArray, List.set_cons_zero, List.set_cons_succ]
    go_wp2_with fail
    go_roundg (x % y)
    case measure => rw [HGK.out]; exact Nat.mod_lt _ HY.out
    case rel => exact ⟨y, x % y, rfl, rfl, rfl, HX.out.2, Nat.le_trans (Nat.mod_le _ _) HX.out.1, by rw [HGC.out, Nat.gcd_comm x y, Nat.gcd_rec y x, Nat.gcd_comm], HTR.out.drew⟩
  · obtain rfl : y = 0 := by omega
    clear h0
    go_upto_region 1 with fail
    refine wp_region_lit ?_
    refine wpList_run (v := .int .i64 ((0 : Nat) : Int)) (wanted_none rfl) (exec_move rfl rfl) ?_
    simp only [Act.put, List.setIfInBounds_toArray, List.set_cons_zero, List.set_cons_succ]
    refine wpList_run (v := .bool false) (wanted_none rfl) (ix_gtr rfl rfl rfl (by decide)) ?_
    simp only [Act.put, List.setIfInBounds_toArray, List.set_cons_zero, List.set_cons_succ]
    go_upto_region 3 with fail
    refine wp_region_lit ?_
    refine wpList_run (v := .int .i64 (x : Int)) (wanted_none rfl) (exec_move rfl rfl) ?_
    simp only [Act.put, List.setIfInBounds_toArray, List.set_cons_zero, List.set_cons_succ]
    refine wpList_run (v := .int .i64 (x : Int)) (wanted_none rfl) (gx_assign rfl rfl) ?_
    simp only [Act.put, List.setIfInBounds_toArray, List.set_cons_zero, List.set_cons_succ]
    go_wp2_with fail
    go_ret
    exact ⟨by rw [HGC.out, Nat.gcd_zero_right]; rfl, HTR.out⟩
set_option maxRecDepth 20000 in
set_option maxHeartbeats 4000000 in
theorem step_walk {w : World} {c : Int} {n : Nat} (hc : -9223372036854775808 ≤ c ∧ c ≤ 9223372036854775807) (hn : n ≤ 601) :
    Calls Try.prog 23 #[.int .i64 c, .int .i64 (n : Int)] w fun e w' => ∃ s : Nat, e = .returned (.int .i64 (s : Int)) ∧ Nat.gcd s n = 1 ∧ s ≤ 602 ∧ Turn nowhere w w' := by
  have HC := Lib.hid hc
  have HN := Lib.hid hn
  have yn : (n : Int) ≤ 601 := by omega
  clear hc hn
  go_enter Try.func23, Try.ntmps23
  go_upto_region 0 with fail
  refine wp_region_lit ?_
  refine wpList_run (v := .int .i64 0) (wanted_none rfl) (gx_assign rfl rfl) ?_
  simp only [Act.put, List.setIfInBounds_toArray, List.set_cons_zero, List.set_cons_succ]
  by_cases h2 : n < 2
  · have y1 : (n : Int) < 2 := by omega
    clear h2
    go_upto_region 1 with fail
    refine wp_region_lit ?_
    refine wpList_run (v := .int .i64 (n : Int)) (wanted_none rfl) (exec_move rfl rfl) ?_
    simp only [Act.put, List.setIfInBounds_toArray, List.set_cons_zero, List.set_cons_succ]
    refine wpList_run (v := .bool true) (wanted_none rfl) (ix_lss rfl rfl rfl (decide_eq_true y1)) ?_
    simp only [Act.put, List.setIfInBounds_toArray, List.set_cons_zero, List.set_cons_succ]
    go_upto_region 2 with fail
    refine wp_region_lit ?_
    refine wpList_run (v := .int .i64 1) (wanted_none rfl) (gx_assign rfl rfl) ?_
    simp only [Act.put, List.setIfInBounds_toArray, List.set_cons_zero, List.set_cons_succ]
    go_wp2_with fail
    go_ret
    exact ⟨1, rfl, Nat.gcd_one_left n, by decide, Turn.refl _ _⟩
  · have HN2 := Lib.hid (show 2 ≤ n from by omega)
    have y1 : (2 : Int) ≤ (n : Int) := by omega
    clear h2
    have HAM := Lib.hid (among_walk c n w HC.out (by have := HN2.out; omega) (by have := HN.out; omega))
    go_upto_region 1 with fail
    refine wp_region_lit ?_
    refine wpList_run (v := .int .i64 (n : Int)) (wanted_none rfl) (exec_move rfl rfl) ?_
    simp only [Act.put, List.setIfInBounds_toArray, List.set_cons_zero, List.set_cons_succ]
    refine wpList_run (v := .bool false) (wanted_none rfl) (ix_lss rfl rfl rfl (decide_eq_false (by omega))) ?_
    simp only [Act.put, List.setIfInBounds_toArray, List.set_cons_zero, List.set_cons_succ]
    go_upto_region 3 with fail
    refine wp_region_lit ?_
    refine wpList_run (v := .int .i64 c) (wanted_none rfl) (exec_move rfl rfl) ?_
    simp only [Act.put, List.setIfInBounds_toArray, List.set_cons_zero, List.set_cons_succ]
    refine wpList_run (v := .int .i64 (n : Int)) (wanted_none rfl) (exec_move rfl rfl) ?_
    simp only [Act.put, List.setIfInBounds_toArray, List.set_cons_zero, List.set_cons_succ]
    refine wpList_op rfl fun K9 HK9 => ?_
    go_wp2_with fail
    refine (HAM.out).mono ?_
    rintro e w2 ⟨m, rfl, hm, hw⟩
    refine HK9.out _ _ ?_
    clear HK9
    try simp only [Act.put, List.setIfInBounds_toArray, List.set_cons_zero, List.set_cons_succ]
    subst hw
    have HM := Lib.hid hm
    have ym : (m : Int) < (n : Int) := by omega
    clear hm HAM
    refine wpList_run (v := .int .i64 ((m + 1 : Nat) : Int)) (wanted_none rfl) (ix_add rfl rfl rfl (by omega) (by omega)) ?_
    simp only [Act.put, List.setIfInBounds_toArray, List.set_cons_zero, List.set_cons_succ]
    refine wpList_run (v := .int .i64 ((m + 1 : Nat) : Int)) (wanted_none rfl) (gx_assign rfl rfl) ?_
    simp only [Act.put, List.setIfInBounds_toArray, List.set_cons_zero, List.set_cons_succ]
    go_wp2_with fail
    go_loopg [0] (n - m) (fun gk sv wr => ∃ s : Nat, sv = .int .i64 (s : Int) ∧ s + gk = n + 1 ∧ Turn nowhere w wr)
    case atStart => exact ⟨m + 1, rfl, by have := HM.out; omega, Turn.refl _ _⟩
    obtain ⟨s, rfl, hgk, htr⟩ := hrel
    have HGK := Lib.hid hgk
    have HTR := Lib.hid htr
    have ys : (s : Int) ≤ (n : Int) + 1 := by omega
    clear hgk htr
    have HCM := Lib.hid (common_walk (w := wr) (a := s) (b := n) (by have := HGK.out; have := HN.out; omega) (by have := HN.out; omega))
    go_upto_region 4 with fail
    refine wp_region_lit ?_
    refine wpList_run (v := .int .i64 (s : Int)) (wanted_none rfl) (exec_move rfl rfl) ?_
    simp only [Act.put, List.setIfInBounds_toArray, List.set_cons_zero, List.set_cons_succ]
    refine wpList_run (v := .int .i64 (n : Int)) (wanted_none rfl) (exec_move rfl rfl) ?_
    simp only [Act.put, List.setIfInBounds_toArray, List.set_cons_zero, List.set_cons_succ]
    refine wpList_op rfl fun K9 HK9 => ?_
    go_wp2_with fail
    refine (HCM.out).mono ?_
    rintro e w3 ⟨rfl, ht3⟩
    refine HK9.out _ _ ?_
    clear HK9
    try simp only [Act.put, List.setIfInBounds_toArray, List.set_cons_zero, List.set_cons_succ]
    have HT3 := Lib.hid (HTR.out.trans ht3 fun _ _ e => e)
    clear ht3 HCM
    by_cases hg : Nat.gcd s n = 1
    · have HG := Lib.hid hg
      clear hg
      refine wpList_run (v := .bool false) (wanted_none rfl) (ix_neq rfl rfl rfl (decide_eq_false (by have := HG.out; omega))) ?_
      simp only [Act.put, List.setIfInBounds_toArray, List.set_cons_zero, List.set_cons_succ]
      go_upto_region 6 with fail
      refine wp_region_lit ?_
      refine wpList_run (v := .int .i64 (s : Int)) (wanted_none rfl) (exec_move rfl rfl) ?_
      simp only [Act.put, List.setIfInBounds_toArray, List.set_cons_zero, List.set_cons_succ]
      refine wpList_run (v := .int .i64 (s : Int)) (wanted_none rfl) (gx_assign rfl rfl) ?_
      simp only [Act.put, List.setIfInBounds_toArray, List.set_cons_zero, List.set_cons_succ]
      go_wp2_with fail
      go_ret
      exact ⟨s, rfl, HG.out, by have := HGK.out; have := HN.out; omega, HT3.out⟩
    · have HG := Lib.hid hg
      have HS := Lib.hid (show s ≤ n from by
        rcases Nat.lt_or_ge n s with h | h
        · have e : s = 1 + n := by have := HGK.out; omega
          exact absurd (by rw [e, Nat.gcd_add_self_left, Nat.gcd_one_left]) hg
        · exact h)
      have ys2 : (s : Int) ≤ (n : Int) := by have := HS.out; omega
      clear hg
      refine wpList_run (v := .bool true) (wanted_none rfl) (ix_neq rfl rfl rfl (decide_eq_true (fun e => HG.out (by omega)))) ?_
      simp only [Act.put, List.setIfInBounds_toArray, List.set_cons_zero, List.set_cons_succ]
      go_upto_region 5 with fail
      refine wp_region_lit ?_
      refine wpList_run (v := .int .i64 (s : Int)) (wanted_none rfl) (exec_move rfl rfl) ?_
      simp only [Act.put, List.setIfInBounds_toArray, List.set_cons_zero, List.set_cons_succ]
      refine wpList_run (v := .int .i64 ((s + 1 : Nat) : Int)) (wanted_none rfl) (ix_add rfl rfl rfl (by omega) (by omega)) ?_
      simp only [Act.put, List.setIfInBounds_toArray, List.set_cons_zero, List.set_cons_succ]
      refine wpList_run (v := .int .i64 ((s + 1 : Nat) : Int)) (wanted_none rfl) (gx_assign rfl rfl) ?_
      simp only [Act.put, List.setIfInBounds_toArray, List.set_cons_zero, List.set_cons_succ]
      go_wp2_with fail
      go_roundg (gk - 1)
      case measure => have := HGK.out; have := HS.out; omega
      case rel => exact ⟨s + 1, rfl, by have := HGK.out; have := HS.out; omega, HT3.out⟩
theorem build3B (x y z : Int) (w : World) : (Instr.buildSlice 69 3 #[(0, .int .u8 x), (1, .int .u8 y), (2, .int .u8 z)]).run Try.prog w = .ok (.slice (some ⟨w.heap.size, 0, none⟩) 3 3) (w.alloc (.cells #[.int .u8 x, .int .u8 y, .int .u8 z] 5)) := by kernel_rfl
theorem ux_conv {a : Act} {o : Oper} {W : World} {x : Operand} {v r : Value} {W' : World} {s d : TypeId} (ho : o.op = .convert s d x) (hx : a.eval x = v) (h : (convert s d v).run Try.prog W = .ok r W') : (execOp a.eval o).run Try.prog W = .ok (.value r) W' := by
  unfold execOp
  simp only [ho, hx, h, Sem.run_bind, Sem.run_pure, Result.andThen_ok]
theorem back3 (w : World) (x y z : UInt8) : (convert 69 9 (.slice (some ⟨w.heap.size, 0, none⟩) 3 3)).run Try.prog (w.alloc (.cells #[.int .u8 (x.toNat : Int), .int .u8 (y.toNat : Int), .int .u8 (z.toNat : Int)] 5)) = .ok (strV [x, y, z]) (w.alloc (.cells #[.int .u8 (x.toNat : Int), .int .u8 (y.toNat : Int), .int .u8 (z.toNat : Int)] 5)) := by
  have h := run_convert_bytes_back (P := Try.prog) (w.alloc (.cells #[.int .u8 (x.toNat : Int), .int .u8 (y.toNat : Int), .int .u8 (z.toNat : Int)] 5)) 69 9 5 ⟨w.heap.size, 0, none⟩ 3 [x, y, z] Try.underlying69 Try.underlying5 Try.underlying9
  have hb := Blk.new w 5 #[.int .u8 (x.toNat : Int), .int .u8 (y.toNat : Int), .int .u8 (z.toNat : Int)]
  exact h fun j hj => by
    rw [add_nat, Nat.zero_add, hb.cell]
    match j, hj with
    | 0, _ => rfl
    | 1, _ => rfl
    | 2, _ => rfl
set_option maxRecDepth 20000 in
set_option maxHeartbeats 4000000 in
theorem key_walk {w : World} {n : Nat} (hn : n ≤ 601) : Calls Try.prog 24 #[.int .i64 (n : Int)] w fun e w' => e = .returned (strV (kk n)) ∧ Turn nowhere w w' := by
  have HN := Lib.hid hn
  have yn : (n : Int) ≤ 601 := by omega
  clear hn
  go_enter Try.func24, Try.ntmps24
  go_upto_region 0 with fail
  refine wp_region_lit ?_
  refine wpList_run (v := strV []) (wanted_none rfl) (gx_assign rfl rfl) ?_
  simp only [Act.put, List.setIfInBounds_toArray, List.set_cons_zero, List.set_cons_succ]
  go_upto_region 1 with fail
  refine wp_region_lit ?_
  refine wpList_run (v := .int .i64 (n : Int)) (wanted_none rfl) (exec_move rfl rfl) ?_
  simp only [Act.put, List.setIfInBounds_toArray, List.set_cons_zero, List.set_cons_succ]
  refine wpList_run (v := .int .i64 ((n / 676 : Nat) : Int)) (wanted_none rfl) (ix_quo (n := n) (m := 676) rfl rfl rfl (by decide) (by omega)) ?_
  simp only [Act.put, List.setIfInBounds_toArray, List.set_cons_zero, List.set_cons_succ]
  refine wpList_run (v := .int .i64 ((n / 676 % 26 : Nat) : Int)) (wanted_none rfl) (ix_rem (n := n / 676) (m := 26) rfl rfl rfl (by decide) (by have := HN.out; omega)) ?_
  simp only [Act.put, List.setIfInBounds_toArray, List.set_cons_zero, List.set_cons_succ]
  refine wpList_run (v := .int .i64 ((97 + n / 676 % 26 : Nat) : Int)) (wanted_none rfl) (ix_add rfl rfl rfl (by omega) (by omega)) ?_
  simp only [Act.put, List.setIfInBounds_toArray, List.set_cons_zero, List.set_cons_succ]
  refine wpList_run (v := .int .u8 (((UInt8.ofNat (97 + n / 676 % 26)).toNat : Nat) : Int)) (wanted_none rfl) (ix_i2b rfl rfl) ?_
  simp only [Act.put, List.setIfInBounds_toArray, List.set_cons_zero, List.set_cons_succ]
  refine wpList_run (v := .int .i64 (n : Int)) (wanted_none rfl) (exec_move rfl rfl) ?_
  simp only [Act.put, List.setIfInBounds_toArray, List.set_cons_zero, List.set_cons_succ]
  refine wpList_run (v := .int .i64 ((n / 26 : Nat) : Int)) (wanted_none rfl) (ix_quo (n := n) (m := 26) rfl rfl rfl (by decide) (by omega)) ?_
  simp only [Act.put, List.setIfInBounds_toArray, List.set_cons_zero, List.set_cons_succ]
  refine wpList_run (v := .int .i64 ((n / 26 % 26 : Nat) : Int)) (wanted_none rfl) (ix_rem (n := n / 26) (m := 26) rfl rfl rfl (by decide) (by have := HN.out; omega)) ?_
  simp only [Act.put, List.setIfInBounds_toArray, List.set_cons_zero, List.set_cons_succ]
  refine wpList_run (v := .int .i64 ((97 + n / 26 % 26 : Nat) : Int)) (wanted_none rfl) (ix_add rfl rfl rfl (by omega) (by omega)) ?_
  simp only [Act.put, List.setIfInBounds_toArray, List.set_cons_zero, List.set_cons_succ]
  refine wpList_run (v := .int .u8 (((UInt8.ofNat (97 + n / 26 % 26)).toNat : Nat) : Int)) (wanted_none rfl) (ix_i2b rfl rfl) ?_
  simp only [Act.put, List.setIfInBounds_toArray, List.set_cons_zero, List.set_cons_succ]
  refine wpList_run (v := .int .i64 (n : Int)) (wanted_none rfl) (exec_move rfl rfl) ?_
  simp only [Act.put, List.setIfInBounds_toArray, List.set_cons_zero, List.set_cons_succ]
  refine wpList_run (v := .int .i64 ((n % 26 : Nat) : Int)) (wanted_none rfl) (ix_rem (n := n) (m := 26) rfl rfl rfl (by decide) (by omega)) ?_
  simp only [Act.put, List.setIfInBounds_toArray, List.set_cons_zero, List.set_cons_succ]
  refine wpList_run (v := .int .i64 ((97 + n % 26 : Nat) : Int)) (wanted_none rfl) (ix_add rfl rfl rfl (by omega) (by omega)) ?_
  simp only [Act.put, List.setIfInBounds_toArray, List.set_cons_zero, List.set_cons_succ]
  refine wpList_run (v := .int .u8 (((UInt8.ofNat (97 + n % 26)).toNat : Nat) : Int)) (wanted_none rfl) (ix_i2b rfl rfl) ?_
  simp only [Act.put, List.setIfInBounds_toArray, List.set_cons_zero, List.set_cons_succ]
  refine wpList_run (v := .slice (some ⟨w.heap.size, 0, none⟩) 3 3) (w' := w.alloc (.cells #[.int .u8 (((UInt8.ofNat (97 + n / 676 % 26)).toNat : Nat) : Int), .int .u8 (((UInt8.ofNat (97 + n / 26 % 26)).toNat : Nat) : Int), .int .u8 (((UInt8.ofNat (97 + n % 26)).toNat : Nat) : Int)] 5)) (wanted_none rfl) (bx_slice3 rfl rfl rfl rfl (build3B _ _ _ _)) ?_
  simp only [Act.put, List.setIfInBounds_toArray, List.set_cons_zero, List.set_cons_succ]
  refine wpList_run (v := strV (kk n)) (wanted_none rfl) (ux_conv rfl rfl (back3 w _ _ _)) ?_
  simp only [Act.put, List.setIfInBounds_toArray, List.set_cons_zero, List.set_cons_succ]
  refine wpList_run (v := strV (kk n)) (wanted_none rfl) (gx_assign rfl rfl) ?_
  simp only [Act.put, List.setIfInBounds_toArray, List.set_cons_zero, List.set_cons_succ]
  go_wp2_with fail
  go_ret
  exact ⟨rfl, (Turn.refl nowhere w).alloc _⟩
theorem ix_quoA {a : Act} {o : Oper} {W : World} {x y : Operand} {i : Int} {m : Nat} (ho : o.op = .binOp .quo 3 x y 3) (hx : a.eval x = .int .i64 i) (hy : a.eval y = .int .i64 (m : Int)) (hm : 0 < m) : (execOp a.eval o).run Try.prog W = .ok (.value (.int .i64 (IntKind.i64.wrap (i.tdiv (m : Int))))) W := by
  have hm1 : (m : Int) ≠ 0 := by omega
  unfold execOp
  simp only [ho, hx, hy]
  go_simp
  first | omega | exact Nat.pos_iff_ne_zero.1 hm | (intro h; have := Nat.pos_iff_ne_zero.1 hm; exact this h)
theorem ix_remA {a : Act} {o : Oper} {W : World} {x y : Operand} {i : Int} {m : Nat} (ho : o.op = .binOp .rem 3 x y 3) (hx : a.eval x = .int .i64 i) (hy : a.eval y = .int .i64 (m : Int)) (hm : 0 < m) : (execOp a.eval o).run Try.prog W = .ok (.value (.int .i64 (i.tmod (m : Int)))) W := by
  have hm1 : (m : Int) ≠ 0 := by omega
  unfold execOp
  simp only [ho, hx, hy]
  go_simp
  exact Nat.pos_iff_ne_zero.1 hm
theorem rem26 (z : Int) : ∃ b : Nat, 97 + z.tmod 26 = (b : Int) ∧ b < 256 := by
  have h1 : z.tmod 26 < 26 := Int.tmod_lt_of_pos _ (by decide)
  have h2 : -26 < z.tmod 26 := by
    have := Int.lt_tmod_of_pos z (show (0 : Int) < 26 by decide)
    omega
  exact ⟨(97 + z.tmod 26).toNat, by omega, by omega⟩
set_option maxRecDepth 20000 in
set_option maxHeartbeats 4000000 in
theorem key_any {w : World} {i : Int} : Calls Try.prog 24 #[.int .i64 i] w fun e w' => (∃ k, e = .returned (strV k)) ∧ Turn nowhere w w' := by
  go_enter Try.func24, Try.ntmps24
  obtain ⟨z1, hz1⟩ : ∃ z, z = IntKind.i64.wrap (i.tdiv ((676 : Nat) : Int)) := ⟨_, rfl⟩
  obtain ⟨z2, hz2⟩ : ∃ z, z = IntKind.i64.wrap (i.tdiv ((26 : Nat) : Int)) := ⟨_, rfl⟩
  obtain ⟨b1, h1, l1⟩ := rem26 z1
  obtain ⟨b2, h2, l2⟩ := rem26 z2
  obtain ⟨b3, h3, l3⟩ := rem26 i
  have HZ1 := Lib.hid hz1
  have HZ2 := Lib.hid hz2
  obtain ⟨r1, hr1⟩ : ∃ r, r = z1.tmod ((26 : Nat) : Int) := ⟨_, rfl⟩
  obtain ⟨r2, hr2⟩ : ∃ r, r = z2.tmod ((26 : Nat) : Int) := ⟨_, rfl⟩
  obtain ⟨r3, hr3⟩ : ∃ r, r = i.tmod ((26 : Nat) : Int) := ⟨_, rfl⟩
  have HB1 := Lib.hid (show 97 + r1 = (b1 : Int) ∧ b1 < 256 from ⟨by rw [hr1]; exact h1, l1⟩)
  have HB2 := Lib.hid (show 97 + r2 = (b2 : Int) ∧ b2 < 256 from ⟨by rw [hr2]; exact h2, l2⟩)
  have HB3 := Lib.hid (show 97 + r3 = (b3 : Int) ∧ b3 < 256 from ⟨by rw [hr3]; exact h3, l3⟩)
  have HR1 := Lib.hid hr1
  have HR2 := Lib.hid hr2
  have HR3 := Lib.hid hr3
  clear hz1 hz2 h1 h2 h3 hr1 hr2 hr3
  go_upto_region 0 with fail
  refine wp_region_lit ?_
  refine wpList_run (v := strV []) (wanted_none rfl) (gx_assign rfl rfl) ?_
  simp only [Act.put, List.setIfInBounds_toArray, List.set_cons_zero, List.set_cons_succ]
  go_upto_region 1 with fail
  refine wp_region_lit ?_
  refine wpList_run (v := .int .i64 i) (wanted_none rfl) (exec_move rfl rfl) ?_
  simp only [Act.put, List.setIfInBounds_toArray, List.set_cons_zero, List.set_cons_succ]
  refine wpList_run (v := .int .i64 z1) (wanted_none rfl) (by rw [HZ1.out]; exact ix_quoA (m := 676) rfl rfl rfl (by decide)) ?_
  simp only [Act.put, List.setIfInBounds_toArray, List.set_cons_zero, List.set_cons_succ]
  refine wpList_run (v := .int .i64 r1) (wanted_none rfl) (by rw [HR1.out]; exact ix_remA (m := 26) rfl rfl rfl (by decide)) ?_
  simp only [Act.put, List.setIfInBounds_toArray, List.set_cons_zero, List.set_cons_succ]
  refine wpList_run (v := .int .i64 (b1 : Int)) (wanted_none rfl) (ix_add rfl rfl rfl HB1.out.1 (by have := HB1.out.2; omega)) ?_
  simp only [Act.put, List.setIfInBounds_toArray, List.set_cons_zero, List.set_cons_succ]
  refine wpList_run (v := .int .u8 (((UInt8.ofNat b1).toNat : Nat) : Int)) (wanted_none rfl) (ix_i2b rfl rfl) ?_
  simp only [Act.put, List.setIfInBounds_toArray, List.set_cons_zero, List.set_cons_succ]
  refine wpList_run (v := .int .i64 i) (wanted_none rfl) (exec_move rfl rfl) ?_
  simp only [Act.put, List.setIfInBounds_toArray, List.set_cons_zero, List.set_cons_succ]
  refine wpList_run (v := .int .i64 z2) (wanted_none rfl) (by rw [HZ2.out]; exact ix_quoA (m := 26) rfl rfl rfl (by decide)) ?_
  simp only [Act.put, List.setIfInBounds_toArray, List.set_cons_zero, List.set_cons_succ]
  refine wpList_run (v := .int .i64 r2) (wanted_none rfl) (by rw [HR2.out]; exact ix_remA (m := 26) rfl rfl rfl (by decide)) ?_
  simp only [Act.put, List.setIfInBounds_toArray, List.set_cons_zero, List.set_cons_succ]
  refine wpList_run (v := .int .i64 (b2 : Int)) (wanted_none rfl) (ix_add rfl rfl rfl HB2.out.1 (by have := HB2.out.2; omega)) ?_
  simp only [Act.put, List.setIfInBounds_toArray, List.set_cons_zero, List.set_cons_succ]
  refine wpList_run (v := .int .u8 (((UInt8.ofNat b2).toNat : Nat) : Int)) (wanted_none rfl) (ix_i2b rfl rfl) ?_
  simp only [Act.put, List.setIfInBounds_toArray, List.set_cons_zero, List.set_cons_succ]
  refine wpList_run (v := .int .i64 i) (wanted_none rfl) (exec_move rfl rfl) ?_
  simp only [Act.put, List.setIfInBounds_toArray, List.set_cons_zero, List.set_cons_succ]
  refine wpList_run (v := .int .i64 r3) (wanted_none rfl) (by rw [HR3.out]; exact ix_remA (m := 26) rfl rfl rfl (by decide)) ?_
  simp only [Act.put, List.setIfInBounds_toArray, List.set_cons_zero, List.set_cons_succ]
  refine wpList_run (v := .int .i64 (b3 : Int)) (wanted_none rfl) (ix_add rfl rfl rfl HB3.out.1 (by have := HB3.out.2; omega)) ?_
  simp only [Act.put, List.setIfInBounds_toArray, List.set_cons_zero, List.set_cons_succ]
  refine wpList_run (v := .int .u8 (((UInt8.ofNat b3).toNat : Nat) : Int)) (wanted_none rfl) (ix_i2b rfl rfl) ?_
  simp only [Act.put, List.setIfInBounds_toArray, List.set_cons_zero, List.set_cons_succ]
  refine wpList_run (v := .slice (some ⟨w.heap.size, 0, none⟩) 3 3) (w' := w.alloc (.cells #[.int .u8 (((UInt8.ofNat b1).toNat : Nat) : Int), .int .u8 (((UInt8.ofNat b2).toNat : Nat) : Int), .int .u8 (((UInt8.ofNat b3).toNat : Nat) : Int)] 5)) (wanted_none rfl) (bx_slice3 rfl rfl rfl rfl (build3B _ _ _ _)) ?_
  simp only [Act.put, List.setIfInBounds_toArray, List.set_cons_zero, List.set_cons_succ]
  refine wpList_run (v := strV [UInt8.ofNat b1, UInt8.ofNat b2, UInt8.ofNat b3]) (wanted_none rfl) (ux_conv rfl rfl (back3 w _ _ _)) ?_
  simp only [Act.put, List.setIfInBounds_toArray, List.set_cons_zero, List.set_cons_succ]
  refine wpList_run (v := strV [UInt8.ofNat b1, UInt8.ofNat b2, UInt8.ofNat b3]) (wanted_none rfl) (gx_assign rfl rfl) ?_
  simp only [Act.put, List.setIfInBounds_toArray, List.set_cons_zero, List.set_cons_succ]
  go_wp2_with fail
  go_ret
  exact ⟨⟨_, rfl⟩, (Turn.refl nowhere w).alloc _⟩
theorem key_all {w : World} (i : Int) : Calls Try.prog 24 #[.int .i64 i] w fun e w' => (∃ k, e = .returned (strV k) ∧ ∀ m : Nat, i = (m : Int) → m ≤ 601 → k = kk m) ∧ Turn nowhere w w' := by
  by_cases h : ∃ m : Nat, i = (m : Int) ∧ m ≤ 601
  · obtain ⟨m, rfl, hm⟩ := h
    refine (key_walk hm).mono fun e w' h => ⟨⟨_, h.1, fun m' e' _ => ?_⟩, h.2⟩
    rw [show m = m' by omega]
  · refine key_any.mono fun e w' h9 => ⟨?_, h9.2⟩
    obtain ⟨k, e⟩ := h9.1
    exact ⟨k, e, fun m e1 e2 => absurd ⟨m, e1, e2⟩ h⟩
end Go.Proofs.Ytmlkdkbpbleilaa

namespace Go.Proofs.Ytmlkdkbpbleilaa
open Go.RowKit Go.Shelf
open Ix
set_option linter.unusedVariables false
set_option linter.unusedSimpArgs false
attribute [local go_sem] Oper.semAt_some
theorem guard_str (P : Program) (t : TypeId) (x y : Operand) (a b : Key) (W : World) : (eqGuard .neq t x y (strV a) (strV b)).run P W = .ok () W := by simp [strV, eqGuard]
theorem neq_str (a b : Key) (W : World) : (binOp .neq 9 (strV a) (strV b)).run Try.prog W = .ok (.bool (!(a == b))) W := by simp [strV, binOp_string_neq]
attribute [local go_sem] guard_str neq_str
/-- the one block that the body of the range writes -/
def onlyG (gl : Nat) (A : World) (k : Nat) : Prop := k = gl
theorem onlyOK {gl n0 : Nat} (h : gl < n0) : GOK (onlyG gl) n0 := fun A B k hb hn hk => hk
def lastOf (pre : List Pr) : Int := (pre.getLast?.map (·.2)).getD (-1)
structure ManyI (w1 : World) (gl g1 : Nat) (pre : List Pr) (W : World) : Prop where
  b : Blk W gl 3 #[.int .i64 (lastOf pre)]
  b1 : Blk W g1 4 #[.bool false]
  lo : -1 ≤ lastOf pre
  kp : KpG (onlyG gl) w1.heap.size w1 W
theorem ManyI.new {w1 : World} {gl g1 : Nat} (h : gl < w1.heap.size) (hb : Blk w1 gl 3 #[.int .i64 (-1)]) (hb1 : Blk w1 g1 4 #[.bool false]) : ManyI w1 gl g1 [] w1 := ⟨hb, hb1, by decide, KpG.still (onlyOK h) (Nat.le_refl _) (Turn.refl _ _)⟩
theorem ManyI.own {w1 : World} {gl g1 : Nat} {pre : List Pr} {W W' : World} {row : Option Nat} (h : ManyI w1 gl g1 pre W) (hg : W.grownBy W' row)
    (hr : ∀ r, row = some r → w1.heap.size ≤ r ∧ ∃ o : Obj, W.heap[r]? = some o ∧ o.isCells = false) : ManyI w1 gl g1 pre W' := by
  have ht : Turn (fun k => row = some k) W W' := (Turn.refl _ W).grown hg fun g e _ => e
  exact ⟨h.b.by_ hg fun r e => (hr r e).2, h.b1.by_ hg fun r e => (hr r e).2, h.lo, h.kp.trans ⟨ht.mono fun k _ e => .inr ⟨(hr k e).1, (hr k e).2⟩, fun k hk _ => .inl hk⟩⟩
theorem lastOf_add (pre : List Pr) (p : Pr) : lastOf (pre ++ [p]) = p.2 := by simp [lastOf]
theorem ManyI.next {w1 : World} {gl g1 : Nat} {pre : List Pr} {W W2 : World} {p : Pr} (h : ManyI w1 gl g1 pre W) (ht : Turn nowhere W W2) (hne : g1 ≠ gl) (hp : ¬ p.2 ≤ lastOf pre) :
    KpG (onlyG gl) w1.heap.size W (W2.setCell ⟨gl, 0, none⟩ (.int .i64 p.2)) ∧ ManyI w1 gl g1 (pre ++ [p]) (W2.setCell ⟨gl, 0, none⟩ (.int .i64 p.2)) := by
  have hk : KpG (onlyG gl) w1.heap.size W (W2.setCell ⟨gl, 0, none⟩ (.int .i64 p.2)) :=
    ⟨(ht.mono fun _ _ e => e.elim).trans ((Turn.refl nowhere W2).mono (fun _ _ e => e.elim) |>.trans ((Turn.refl (only gl) W2).at_ 0 (.int .i64 p.2) |>.mono fun k _ e => .inl e) fun _ _ e => e) fun _ _ e => e, fun k hk _ => .inl hk⟩
  refine ⟨hk, ?_, (h.b1.turn ht fun e => e).far (p := ⟨gl, 0, none⟩) hne (.int .i64 p.2), ?_, h.kp.trans hk⟩
  · rw [lastOf_add]
    exact (h.b.turn ht fun e => e).set_ 0 _
  · rw [lastOf_add]
    have := h.lo
    omega
/-- what a wrong pair would be -/
def Wrong (pre : List Pr) : Prop := ∃ pre0 p, pre = pre0 ++ [p] ∧ (p.2 ≤ lastOf pre0 ∨ ∀ m : Nat, p.2 = (m : Int) → m ≤ 601 → p.1 ≠ kk m)
theorem not_wrong {n : Nat} {l pre : List Pr} (h : AllIn n l) (hn : n ≤ 600) (hp : pre <+: l) (hw : Wrong pre) : False := by
  obtain ⟨pre0, p, rfl, hw⟩ := hw
  obtain ⟨rest, e⟩ := hp
  obtain ⟨x, hx, hpx, hl⟩ := all_at h hn (pre := pre0) (p := p) (rest := rest) (by rw [← e]; simp)
  rcases hw with hw | hw
  · unfold lastOf at hw
    cases hg : pre0.getLast? with
    | none =>
      rw [hg] at hw
      have hw : p.2 ≤ -1 := hw
      rw [hpx] at hw
      have hw : (x : Int) ≤ -1 := hw
      omega
    | some q =>
      rw [hg] at hw
      have hw : p.2 ≤ q.2 := hw
      have := hl q hg
      omega
  · exact hw x (by rw [hpx]) (by omega) (by rw [hpx])
theorem Turn.at_heap {F : Nat → Prop} {w w' : World} (h : Turn F w w') {k : Nat} {o : Obj} (hk : w.heap[k]? = some o) (hF : ¬ F k) : w'.heap[k]? = some o :=
  (h.block k (Array.getElem?_eq_some_iff.1 hk).1 hF).trans hk
theorem Idx.not_def {w : World} {x : Nat} {H : Hp} {M N : Nat} {l : List Pr} (h : Idx w x H M l N) {D : Nat} {r : Option (List Deferred)} (hk : w.heap[D]? = some (.deferred r)) : ¬ own x H D := by
  have no : ∀ {t : TypeId} {cs : Array Value}, ¬ Blk w D t cs := fun {t cs} hb => by
    have hb : w.heap[D]? = some (.cells cs t (0, 0)) := hb
    rw [hb] at hk
    cases hk
  rintro (e | e)
  · obtain ⟨_, _, hb, _⟩ := h.blk
    rw [← e] at hb
    exact no hb
  · obtain ⟨t, cs, hb⟩ := h.hin.foot_cells e
    exact no hb
theorem KeepsOthers.turn {W W' : World} (h : Turn nowhere W W') : KeepsOthers W W' := ⟨h.size, fun k o hk _ => (h.block k (Array.getElem?_eq_some_iff.1 hk).1 fun e => e).trans hk⟩
set_option maxRecDepth 20000 in
set_option maxHeartbeats 16000000 in
theorem many_walk {w : World} {c1 c2 a0 a1 : Int} (hc1 : -9223372036854775808 ≤ c1 ∧ c1 ≤ 9223372036854775807) (hc2 : -9223372036854775808 ≤ c2 ∧ c2 ≤ 9223372036854775807) (ha0 : -9223372036854775808 ≤ a0 ∧ a0 ≤ 9223372036854775807) (ha1 : -9223372036854775808 ≤ a1 ∧ a1 ≤ 9223372036854775807) :
    Calls Try.prog 4 #[.int .i64 c1, .int .i64 c2, .agg #[.int .i64 a0, .int .i64 a1]] w fun e w' => e = .returned (.bool true) ∧ Turn nowhere w w' := by
  have HC1 := Lib.hid hc1
  have HC2 := Lib.hid hc2
  have HA0 := Lib.hid ha0
  have HA1 := Lib.hid ha1
  clear hc1 hc2 ha0 ha1
  refine callsIn_wide.1 (?_ : CallsIn Fence.wide 9 _ _ _ _ _)
  refine callsIn_of_wp_marks Try.func4 rfl trivial ?_ rfl
  refine wpIn_wide.2 ?_
  simp only [Try.ntmps4, List.size_toArray, List.length_cons, List.length_nil, Nat.reduceAdd, Nat.reduceSub, Array.replicate_succ, Array.replicate_zero, List.push_toArray, List.append_toArray, List.nil_append, List.cons_append]
  go_upto_region 1 with fail
  have hb0 := (Blk.new w 44 #[.int .i64 a0, .int .i64 a1]).alloc (.cells #[.bool false] 4)
  have hb1 := Blk.new (w.alloc (.cells #[.int .i64 a0, .int .i64 a1] 44)) 4 #[.bool false]
  rw [World.size_alloc] at hb1
  have ht0 := ((Turn.refl nowhere w).alloc (.cells #[.int .i64 a0, .int .i64 a1] 44)).alloc (.cells #[.bool false] 4)
  obtain ⟨w0, hw0⟩ : ∃ v, v = (w.alloc (.cells #[.int .i64 a0, .int .i64 a1] 44)).alloc (.cells #[.bool false] 4) := ⟨_, rfl⟩
  obtain ⟨g1, hg1⟩ : ∃ g, g = w.heap.size + 1 := ⟨_, rfl⟩
  obtain ⟨g0, hg0⟩ : ∃ g, g = w.heap.size := ⟨_, rfl⟩
  rw [← hw0] at hb0 hb1 ht0 ⊢
  rw [← hg1] at hb1 ⊢
  rw [← hg0] at hb0 ⊢
  have HB0 := Lib.hid hb0
  have HB1 := Lib.hid hb1
  have HT0 := Lib.hid ht0
  have HG := Lib.hid (show w.heap.size ≤ g0 ∧ w.heap.size ≤ g1 from by omega)
  clear hb0 hb1 ht0 hw0 hg1 hg0
  refine wp_region_lit ?_
  refine wpList_op rfl fun K9 HK9 => ?_
  go_wp2_with fail
  refine ((shown_walk (w := w0))).mono ?_
  rintro e w1 ⟨rfl, ht1⟩
  refine HK9.out _ _ ?_
  clear HK9
  try simp only [Act.put, List.setIfInBounds_toArray, List.set_cons_zero, List.set_cons_succ]
  have HT1 := Lib.hid ht1
  clear ht1
  refine wpList_run (v := .bool true) (wanted_none rfl) (gx_assign rfl rfl) ?_
  simp only [Act.put, List.setIfInBounds_toArray, List.set_cons_zero, List.set_cons_succ]
  have HAM := Lib.hid (show Calls Try.prog 22 #[.int .i64 c1, .int .i64 63] w1 _ from among_walk c1 63 w1 HC1.out (by decide) (by decide))
  go_upto_region 2 with fail
  refine wp_region_lit ?_
  refine wpList_run (v := .int .i64 c1) (wanted_none rfl) (exec_move rfl rfl) ?_
  simp only [Act.put, List.setIfInBounds_toArray, List.set_cons_zero, List.set_cons_succ]
  refine wpList_op rfl fun K9 HK9 => ?_
  go_wp2_with fail
  refine (HAM.out).mono ?_
  rintro e w2 ⟨m0, rfl, hm0, hw⟩
  refine HK9.out _ _ ?_
  clear HK9
  try simp only [Act.put, List.setIfInBounds_toArray, List.set_cons_zero, List.set_cons_succ]
  subst hw
  have ym0 : (m0 : Int) < 63 := by omega
  clear HAM
  refine wpList_run (v := .int .i64 ((m0 + 2 : Nat) : Int)) (wanted_none rfl) (ix_add rfl rfl rfl (by omega) (by omega)) ?_
  simp only [Act.put, List.setIfInBounds_toArray, List.set_cons_zero, List.set_cons_succ]
  refine wpList_run (v := .int .i64 ((m0 + 2 : Nat) : Int)) (wanted_none rfl) (gx_assign rfl rfl) ?_
  simp only [Act.put, List.setIfInBounds_toArray, List.set_cons_zero, List.set_cons_succ]
  have HAM := Lib.hid (show Calls Try.prog 22 #[.int .i64 c2, .int .i64 601] w1 _ from among_walk c2 601 w1 HC2.out (by decide) (by decide))
  go_upto_region 3 with fail
  refine wp_region_lit ?_
  refine wpList_run (v := .int .i64 c2) (wanted_none rfl) (exec_move rfl rfl) ?_
  simp only [Act.put, List.setIfInBounds_toArray, List.set_cons_zero, List.set_cons_succ]
  refine wpList_op rfl fun K9 HK9 => ?_
  go_wp2_with fail
  refine (HAM.out).mono ?_
  rintro e w2 ⟨n, rfl, hn, hw⟩
  refine HK9.out _ _ ?_
  clear HK9
  try simp only [Act.put, List.setIfInBounds_toArray, List.set_cons_zero, List.set_cons_succ]
  subst hw
  have yn : (n : Int) < 601 := by omega
  have HN := Lib.hid (show n ≤ 600 from by omega)
  clear HAM hn
  refine wpList_run (v := .int .i64 (n : Int)) (wanted_none rfl) (gx_assign rfl rfl) ?_
  simp only [Act.put, List.setIfInBounds_toArray, List.set_cons_zero, List.set_cons_succ]
  go_upto_region 4 with fail
  refine wp_region_lit ?_
  refine wpList_run (v := .int .i64 ((m0 + 2 : Nat) : Int)) (wanted_none rfl) (exec_move rfl rfl) ?_
  simp only [Act.put, List.setIfInBounds_toArray, List.set_cons_zero, List.set_cons_succ]
  refine wpList_op rfl fun K9 HK9 => ?_
  go_wp2_with fail
  refine ((new_walk (w := w1) (M := m0 + 2) (by omega) (by omega))).mono ?_
  rintro e w2 ⟨x, rfl, hx, ht2, hi2⟩
  refine HK9.out _ _ ?_
  clear HK9
  try simp only [Act.put, List.setIfInBounds_toArray, List.set_cons_zero, List.set_cons_succ]
  have HF2 := Lib.hid (Fr.still (w := w0) (Fr.new (HT1.out.trans ht2 fun _ _ e => e) (Nat.le_trans HT1.out.size hx)) (Turn.refl nowhere w2))
  have HI2 := Lib.hid hi2
  clear hx ht2 hi2
  refine wpList_run (v := .tuple #[.pointer (some ⟨x, 0, none⟩), .int .i64 0]) (wanted_none rfl) (exec_move rfl rfl) ?_
  simp only [Act.put, List.setIfInBounds_toArray, List.set_cons_zero, List.set_cons_succ]
  refine wpList_run (v := .pointer (some ⟨x, 0, none⟩)) (wanted_none rfl) (ix_extract rfl rfl rfl) ?_
  simp only [Act.put, List.setIfInBounds_toArray, List.set_cons_zero, List.set_cons_succ]
  refine wpList_run (v := .int .i64 0) (wanted_none rfl) (ix_extract rfl rfl rfl) ?_
  simp only [Act.put, List.setIfInBounds_toArray, List.set_cons_zero, List.set_cons_succ]
  refine wpList_run (v := .pointer (some ⟨x, 0, none⟩)) (wanted_none rfl) (gx_assign rfl rfl) ?_
  simp only [Act.put, List.setIfInBounds_toArray, List.set_cons_zero, List.set_cons_succ]
  refine wpList_run (v := .int .i64 0) (wanted_none rfl) (gx_assign rfl rfl) ?_
  simp only [Act.put, List.setIfInBounds_toArray, List.set_cons_zero, List.set_cons_succ]
  go_upto_region 5 with fail
  refine wp_region_lit ?_
  refine wpList_run (v := .bool true) (wanted_none rfl) (exec_move rfl rfl) ?_
  simp only [Act.put, List.setIfInBounds_toArray, List.set_cons_zero, List.set_cons_succ]
  refine wpList_run (v := .bool false) (wanted_none rfl) (ix_not (b := true) rfl rfl) ?_
  simp only [Act.put, List.setIfInBounds_toArray, List.set_cons_zero, List.set_cons_succ]
  refine wpList_run (v := .bool false) (wanted_none rfl) (exec_move rfl rfl) ?_
  simp only [Act.put, List.setIfInBounds_toArray, List.set_cons_zero, List.set_cons_succ]
  refine wpList_run (v := .pointer (some ⟨x, 0, none⟩)) rfl (exec_move rfl rfl) ?_
  simp only [Act.put, List.setIfInBounds_toArray, List.set_cons_zero, List.set_cons_succ]
  refine wpList_run (v := .bool false) rfl (ixp_some rfl rfl rfl rfl) ?_
  simp only [Act.put, List.setIfInBounds_toArray, List.set_cons_zero, List.set_cons_succ]
  refine wpList_run (v := .bool false) (wanted_none rfl) (ix_pickF rfl rfl rfl) ?_
  simp only [Act.put, List.setIfInBounds_toArray, List.set_cons_zero, List.set_cons_succ]
  refine wpList_run (v := .bool false) (wanted_none rfl) (exec_move rfl rfl) ?_
  simp only [Act.put, List.setIfInBounds_toArray, List.set_cons_zero, List.set_cons_succ]
  refine wpList_run (v := .int .i64 0) rfl (exec_move rfl rfl) ?_
  simp only [Act.put, List.setIfInBounds_toArray, List.set_cons_zero, List.set_cons_succ]
  refine wpList_run (v := .bool false) rfl (ix_neq rfl rfl rfl (by decide)) ?_
  simp only [Act.put, List.setIfInBounds_toArray, List.set_cons_zero, List.set_cons_succ]
  refine wpList_run (v := .bool false) (wanted_none rfl) (ix_pickF rfl rfl rfl) ?_
  simp only [Act.put, List.setIfInBounds_toArray, List.set_cons_zero, List.set_cons_succ]
  have hc0 : w2.cell? ⟨g0, 0, none⟩ = some (.int .i64 a0) := (HB0.out.turn HF2.out.1 fun e => e).cell 0
  go_upto_region 7 with fail
  go_wp2_with fail
  refine (step_walk (w := w2) (c := a0) (n := n) HA0.out (by have := HN.out; omega)).mono ?_
  rintro e w3 ⟨one, rfl, hg1, hs1, ht3⟩
  have HS1 := Lib.hid (And.intro hg1 hs1)
  have y1 : (one : Int) ≤ 602 := by omega
  have HI3 := Lib.hid (HI2.out.still ht3)
  have HF3 := Lib.hid (HF2.out.still ht3)
  clear hc0 hg1 hs1 ht3
  have hc1 : w3.cell? ⟨g0, 1, none⟩ = some (.int .i64 a1) := (HB0.out.turn HF3.out.1 fun e => e).cell 1
  go_upto_region 8 with fail
  go_wp2_with fail
  refine (step_walk (w := w3) (c := a1) (n := n) HA1.out (by have := HN.out; omega)).mono ?_
  rintro e w4 ⟨two, rfl, hg2, hs2, ht4⟩
  have HS2 := Lib.hid (And.intro hg2 hs2)
  have y2 : (two : Int) ≤ 602 := by omega
  have HI4 := Lib.hid (HI3.out.still ht4)
  have HF4 := Lib.hid (HF3.out.still ht4)
  clear hc1 hg2 hs2 ht4
  go_wp2_with fail
  go_loopg [13, 14] n (fun gk kv iv wr => ∃ (i : Nat) (H : Hp) (l : List Pr), kv = .int .i64 (sq one n i : Int) ∧ iv = .int .i64 (i : Int) ∧ i + gk = n ∧ Idx wr x H (m0 + 2) l i ∧ PutTo one n i l ∧ Fr w0 x H wr)
  case atStart => exact ⟨0, _, [], by rw [sq_zero]; rfl, rfl, by omega, HI4.out, ⟨List.Pairwise.nil, rfl, fun p hp => by cases hp⟩, HF4.out⟩
  obtain ⟨i, H, l1, rfl, rfl, hgk, hi, hs, hf⟩ := hrel
  have HGK := Lib.hid hgk
  have HI := Lib.hid hi
  have HS := Lib.hid hs
  have HF := Lib.hid hf
  have yi : (i : Int) ≤ (n : Int) := by omega
  clear hgk hi hs hf
  by_cases hlt : i < n
  · have HLT := Lib.hid hlt
    have y3 : (i : Int) < (n : Int) := by omega
    have HSQ := Lib.hid (show sq one n i < n ∧ one ≤ 602 ∧ n ≤ 600 from ⟨sq_lt (by omega), HS1.out.2, HN.out⟩)
    have y4 : (sq one n i : Int) < (n : Int) := by have := HSQ.out; omega
    clear hlt
    go_upto_region 11 with fail
    refine wp_region_lit ?_
    refine wpList_run (v := .int .i64 (i : Int)) (wanted_none rfl) (exec_move rfl rfl) ?_
    simp only [Act.put, List.setIfInBounds_toArray, List.set_cons_zero, List.set_cons_succ]
    refine wpList_run (v := .int .i64 (n : Int)) (wanted_none rfl) (exec_move rfl rfl) ?_
    simp only [Act.put, List.setIfInBounds_toArray, List.set_cons_zero, List.set_cons_succ]
    refine wpList_run (v := .bool true) (wanted_none rfl) (ix_lss rfl rfl rfl (decide_eq_true y3)) ?_
    simp only [Act.put, List.setIfInBounds_toArray, List.set_cons_zero, List.set_cons_succ]
    go_upto_region 13 with fail
    refine wp_region_lit ?_
    refine wpList_run (v := .pointer (some ⟨x, 0, none⟩)) (wanted_none rfl) (exec_move rfl rfl) ?_
    simp only [Act.put, List.setIfInBounds_toArray, List.set_cons_zero, List.set_cons_succ]
    refine wpList_run (v := .int .i64 (sq one n i : Int)) (wanted_none rfl) (exec_move rfl rfl) ?_
    simp only [Act.put, List.setIfInBounds_toArray, List.set_cons_zero, List.set_cons_succ]
    refine wpList_op rfl fun K9 HK9 => ?_
    go_wp2_with fail
    refine ((key_walk (w := wr) (n := sq one n i) (by have := HSQ.out; omega))).mono ?_
    rintro e w5 ⟨rfl, ht5⟩
    refine HK9.out _ _ ?_
    clear HK9
    try simp only [Act.put, List.setIfInBounds_toArray, List.set_cons_zero, List.set_cons_succ]
    have HI5 := Lib.hid (HI.out.still ht5)
    have HF5 := Lib.hid (HF.out.still ht5)
    clear ht5
    have HD := Lib.hid (show Calls Try.prog 10 #[.pointer (some ⟨x, 0, none⟩), strV (kk (sq one n i)), .int .i64 (sq one n i : Int)] w5 fun e w' => e = .returned (.tuple #[.int .i64 0, .bool false]) ∧ IdxTo w5 x H (m0 + 2) (lput (kk (sq one n i)) (sq one n i : Int) l1) (i + 1) w' from by
      have h := Put_walk (k := kk (sq one n i)) (v := (sq one n i : Int)) HI5.out (by have := HLT.out; have := HN.out; omega) (by rw [kk_len]; decide)
      rw [put_none HS1.out.1 HN.out HLT.out HS.out] at h
      exact h)
    refine wpList_run (v := .int .i64 (sq one n i : Int)) (wanted_none rfl) (exec_move rfl rfl) ?_
    simp only [Act.put, List.setIfInBounds_toArray, List.set_cons_zero, List.set_cons_succ]
    refine wpList_op rfl fun K9 HK9 => ?_
    go_wp2_with fail
    refine (HD.out).mono ?_
    rintro e w6 ⟨rfl, H6, h1, h2, h3⟩
    refine HK9.out _ _ ?_
    clear HK9
    try simp only [Act.put, List.setIfInBounds_toArray, List.set_cons_zero, List.set_cons_succ]
    have HI6 := Lib.hid h1
    have HF6 := Lib.hid (HF5.out.to h2 h3)
    have HS6 := Lib.hid (put_next HS1.out.1 HN.out HLT.out HS.out)
    have HLN := Lib.hid (show Calls Try.prog 21 #[.pointer (some ⟨x, 0, none⟩)] w6 fun e w' => e = .returned (.int .i64 ((i + 1 : Nat) : Int)) ∧ w' = w6 from by
      have h := Len_walk HI6.out
      rw [HS6.out.2.1] at h
      exact h)
    clear h1 h2 h3 HD
    refine wpList_run (v := .tuple #[.int .i64 0, .bool false]) (wanted_none rfl) (exec_move rfl rfl) ?_
    simp only [Act.put, List.setIfInBounds_toArray, List.set_cons_zero, List.set_cons_succ]
    refine wpList_run (v := .int .i64 0) (wanted_none rfl) (ix_extract rfl rfl rfl) ?_
    simp only [Act.put, List.setIfInBounds_toArray, List.set_cons_zero, List.set_cons_succ]
    refine wpList_run (v := .bool false) (wanted_none rfl) (ix_extract rfl rfl rfl) ?_
    simp only [Act.put, List.setIfInBounds_toArray, List.set_cons_zero, List.set_cons_succ]
    refine wpList_run (v := .int .i64 0) (wanted_none rfl) (gx_assign rfl rfl) ?_
    simp only [Act.put, List.setIfInBounds_toArray, List.set_cons_zero, List.set_cons_succ]
    refine wpList_run (v := .bool false) (wanted_none rfl) (gx_assign rfl rfl) ?_
    simp only [Act.put, List.setIfInBounds_toArray, List.set_cons_zero, List.set_cons_succ]
    go_upto_region 14 with fail
    refine wp_region_lit ?_
    refine wpList_run (v := .bool false) (wanted_none rfl) (exec_move rfl rfl) ?_
    simp only [Act.put, List.setIfInBounds_toArray, List.set_cons_zero, List.set_cons_succ]
    refine wpList_run (v := .bool false) (wanted_none rfl) (exec_move rfl rfl) ?_
    simp only [Act.put, List.setIfInBounds_toArray, List.set_cons_zero, List.set_cons_succ]
    refine wpList_run (v := .pointer (some ⟨x, 0, none⟩)) rfl (exec_move rfl rfl) ?_
    simp only [Act.put, List.setIfInBounds_toArray, List.set_cons_zero, List.set_cons_succ]
    refine wpList_op (by go_simp) fun K9 HK9 => ?_
    go_wp2_with fail
    refine (HLN.out).mono ?_
    rintro e w7 ⟨rfl, hw7⟩
    refine HK9.out _ _ ?_
    clear HK9
    try simp only [Act.put, List.setIfInBounds_toArray, List.set_cons_zero, List.set_cons_succ]
    replace hw7 := hw7.symm
    subst hw7
    clear HLN
    refine wpList_run (v := .int .i64 (i : Int)) rfl (exec_move rfl rfl) ?_
    simp only [Act.put, List.setIfInBounds_toArray, List.set_cons_zero, List.set_cons_succ]
    refine wpList_run (v := .int .i64 ((i + 1 : Nat) : Int)) rfl (ix_add rfl rfl rfl (by omega) (by omega)) ?_
    simp only [Act.put, List.setIfInBounds_toArray, List.set_cons_zero, List.set_cons_succ]
    refine wpList_run (v := .bool false) rfl (ix_neq rfl rfl rfl (decide_eq_false (fun e => e rfl))) ?_
    simp only [Act.put, List.setIfInBounds_toArray, List.set_cons_zero, List.set_cons_succ]
    refine wpList_run (v := .bool false) (wanted_none rfl) (ix_pickF rfl rfl rfl) ?_
    simp only [Act.put, List.setIfInBounds_toArray, List.set_cons_zero, List.set_cons_succ]
    go_upto_region 16 with fail
    refine wp_region_lit ?_
    refine wpList_run (v := .int .i64 (sq one n i : Int)) (wanted_none rfl) (exec_move rfl rfl) ?_
    simp only [Act.put, List.setIfInBounds_toArray, List.set_cons_zero, List.set_cons_succ]
    refine wpList_run (v := .int .i64 (one : Int)) (wanted_none rfl) (exec_move rfl rfl) ?_
    simp only [Act.put, List.setIfInBounds_toArray, List.set_cons_zero, List.set_cons_succ]
    refine wpList_run (v := .int .i64 ((sq one n i + one : Nat) : Int)) (wanted_none rfl) (ix_add rfl rfl rfl (by omega) (by omega)) ?_
    simp only [Act.put, List.setIfInBounds_toArray, List.set_cons_zero, List.set_cons_succ]
    refine wpList_run (v := .int .i64 (n : Int)) (wanted_none rfl) (exec_move rfl rfl) ?_
    simp only [Act.put, List.setIfInBounds_toArray, List.set_cons_zero, List.set_cons_succ]
    refine wpList_run (v := .int .i64 (sq one n (i + 1) : Int)) (wanted_none rfl) (by rw [← sq_next]; exact ix_rem (n := sq one n i + one) (m := n) rfl rfl rfl (by have := HLT.out; omega) (by have := HSQ.out; omega)) ?_
    simp only [Act.put, List.setIfInBounds_toArray, List.set_cons_zero, List.set_cons_succ]
    refine wpList_run (v := .int .i64 (sq one n (i + 1) : Int)) (wanted_none rfl) (gx_assign rfl rfl) ?_
    simp only [Act.put, List.setIfInBounds_toArray, List.set_cons_zero, List.set_cons_succ]
    go_upto_region 12 with fail
    refine wp_region_lit ?_
    refine wpList_run (v := .int .i64 (i : Int)) (wanted_none rfl) (exec_move rfl rfl) ?_
    simp only [Act.put, List.setIfInBounds_toArray, List.set_cons_zero, List.set_cons_succ]
    refine wpList_run (v := .int .i64 ((i + 1 : Nat) : Int)) (wanted_none rfl) (ix_add rfl rfl rfl (by omega) (by omega)) ?_
    simp only [Act.put, List.setIfInBounds_toArray, List.set_cons_zero, List.set_cons_succ]
    refine wpList_run (v := .int .i64 ((i + 1 : Nat) : Int)) (wanted_none rfl) (gx_assign rfl rfl) ?_
    simp only [Act.put, List.setIfInBounds_toArray, List.set_cons_zero, List.set_cons_succ]
    go_wp2_with fail
    go_roundg (n - (i + 1))
    case measure => have := HGK.out; have := HLT.out; omega
    case rel => exact ⟨i + 1, H6, _, rfl, rfl, by have := HLT.out; omega, HI6.out, HS6.out, HF6.out⟩
  · obtain rfl : n = i := by have := HGK.out; omega
    have HALL := Lib.hid (all_of HS.out)
    clear hlt HS
    go_upto_region 11 with fail
    refine wp_region_lit ?_
    refine wpList_run (v := .int .i64 (n : Int)) (wanted_none rfl) (exec_move rfl rfl) ?_
    simp only [Act.put, List.setIfInBounds_toArray, List.set_cons_zero, List.set_cons_succ]
    refine wpList_run (v := .int .i64 (n : Int)) (wanted_none rfl) (exec_move rfl rfl) ?_
    simp only [Act.put, List.setIfInBounds_toArray, List.set_cons_zero, List.set_cons_succ]
    refine wpList_run (v := .bool false) (wanted_none rfl) (ix_lss rfl rfl rfl (decide_eq_false (by omega))) ?_
    simp only [Act.put, List.setIfInBounds_toArray, List.set_cons_zero, List.set_cons_succ]
    go_upto_region 18 with fail
    have hbl := Blk.new wr 3 #[.int .i64 (-1)]
    have ht5 := (Turn.refl nowhere wr).alloc (.cells #[.int .i64 (-1)] 3)
    have hsz := World.size_alloc wr (.cells #[.int .i64 (-1)] 3)
    obtain ⟨gl, hgl⟩ : ∃ g, g = wr.heap.size := ⟨_, rfl⟩
    obtain ⟨w5, hw5⟩ : ∃ v, v = wr.alloc (.cells #[.int .i64 (-1)] 3) := ⟨_, rfl⟩
    rw [← hw5] at hbl ht5 hsz ⊢
    rw [← hgl] at hbl hsz ⊢
    have HBL := Lib.hid hbl
    have HI5 := Lib.hid (HI.out.still ht5)
    have HF5 := Lib.hid (HF.out.still ht5)
    have HGL := Lib.hid (show gl < w5.heap.size ∧ w0.heap.size ≤ gl ∧ ¬ own x H gl from ⟨by omega, by rw [hgl]; exact HF.out.1.size, fun e => by have := HI.out.lt e; omega⟩)
    clear hbl ht5 hsz hgl hw5
    refine wp_region_lit ?_
    refine wpList_run (v := .pointer (some ⟨x, 0, none⟩)) (wanted_none rfl) (exec_move rfl rfl) ?_
    simp only [Act.put, List.setIfInBounds_toArray, List.set_cons_zero, List.set_cons_succ]
    refine wpList_op rfl fun K9 HK9 => ?_
    go_wp2_with fail
    refine ((Range_walk (w := w5) (x := x) (fr := []) («to» := []))).mono ?_
    rintro e w6 ⟨xb, fb, tb, rfl, ht6, ⟨hsx, hsf, hst⟩, hbx, hbf, hbt⟩
    refine HK9.out _ _ ?_
    clear HK9
    try simp only [Act.put, List.setIfInBounds_toArray, List.set_cons_zero, List.set_cons_succ]
    have HI6 := Lib.hid (HI5.out.still ht6)
    have HF6 := Lib.hid (HF5.out.still ht6)
    have HBL6 := Lib.hid (HBL.out.turn ht6 fun e => e)
    have HB16 := Lib.hid (HB1.out.turn HF6.out.1 fun e => e)
    have HNE := Lib.hid (show g1 ≠ gl from by have := HB1.out.lt; have := HGL.out; omega)
    have HX6 := Lib.hid (And.intro hbx (And.intro hbf hbt))
    have HGL6 := Lib.hid (show gl < w6.heap.size ∧ gl ≠ xb ∧ w0.heap.size ≤ gl ∧ ¬ own x H gl from by
      have h1 := HGL.out
      have h2 := ht6.size
      exact ⟨by omega, by omega, h1.2.1, h1.2.2⟩)
    clear ht6 hsx hsf hst hbx hbf hbt
    go_wp2_with fail
    refine (wpIn_wide (n := 9)).1 ?_
    refine wpIn_rangeFunc_ownF (w0 := w6) rfl (by decide) (gf := 34) (lb := #[.pointer (some ⟨xb, 0, none⟩), .pointer (some ⟨fb, 0, none⟩), .pointer (some ⟨tb, 0, none⟩)]) rfl trivial (enters_of Try.func34 (by kernel_rfl) rfl)
      (range_stops (onlyOK (gl := gl) HGL6.out.1) (Nat.le_refl _) HX6.out.1 HX6.out.2.1 HX6.out.2.2 HI6.out (fun k hk => ?own)) (fun h g => h.trans g) (fun W d o o' hd ho hc _ => KpG.put (onlyOK HGL6.out.1) W d o o' hd ho hc) (Below.refl _ _) (fun _ => rfl)
      (fun pre W => ManyI w6 gl g1 pre W) (fun c pre W => c = .ret ∧ Wrong pre)
      (fun pre A B row hs hg hr => hs.own hg hr)
      (fun c pre A B row hs hg hr => hs)
      (ManyI.new HGL6.out.1 HBL6.out HB16.out)
      ?act ?assign ?body ?done ?stop
    case own => rw [show k = gl from hk]; exact ⟨HGL6.out.2.2.2, HGL6.out.2.1, HGL6.out.1⟩
    case assign =>
      intro d x9 W K hK
      gi_wp2
      exact hK
    case body =>
      rintro d pre p W hv hp
      have hb9 : W.cell? ⟨gl, 0, none⟩ = some (.int .i64 (lastOf pre)) := hv.b.cell 0
      have hb1 : W.cell? ⟨g1, 0, none⟩ = some (.bool false) := hv.b1.cell 0
      have hf1 : W.frozen? ⟨g1, 0, none⟩ = false := hv.b1.frozen 0
      by_cases hle : p.2 ≤ lastOf pre
      · have hd9 : decide (p.2 ≤ lastOf pre) = true := decide_eq_true hle
        gi_wp2
        refine ⟨trivial, ?_⟩
        gi_wp2
        exact ⟨KeepsOthers.setCell _ _ _, rfl, pre, p, rfl, .inl hle⟩
      · gi_wp2
        refine ⟨trivial, (CallsIn.inRound _ (callsIn_wide.2 (key_all p.2))).mono ?_⟩
        rintro e W2 ⟨⟨k9, rfl, hk9⟩, ht⟩
        have HK9 := Lib.hid hk9
        have HV := Lib.hid hv
        have hb9 : W2.cell? ⟨gl, 0, none⟩ = some (.int .i64 (lastOf pre)) := (hv.b.turn ht fun e => e).cell 0
        have hf9 : W2.frozen? ⟨gl, 0, none⟩ = false := (hv.b.turn ht fun e => e).frozen 0
        have hb1 : W2.cell? ⟨g1, 0, none⟩ = some (.bool false) := (hv.b1.turn ht fun e => e).cell 0
        have hf1 : W2.frozen? ⟨g1, 0, none⟩ = false := (hv.b1.turn ht fun e => e).frozen 0
        clear hk9 hv
        cases hq9 : p.1 == k9
        all_goals gi_wp2
        · exact ⟨(KeepsOthers.turn ht).trans (KeepsOthers.setCell _ _ _), rfl, pre, p, rfl, .inr fun m e1 e2 e3 => by
            rw [e3, ← HK9.out m e1 e2] at hq9
            simp at hq9⟩
        · have hx := HV.out.next ht HNE.out (p := p) (by omega)
          exact ⟨(KeepsOthers.turn ht).trans (KeepsOthers.setCell _ _ _), hx.1, hx.2⟩
    case done =>
      rintro D ys W hD hys hv hK
      have hto : Turn (only gl) w6 W := hv.kp.1.mono fun k hk e => e.elim (fun e => e) fun e => by
        have := e.1
        omega
      have HKD := Lib.hid hK
      have HDL := Lib.hid (show w.heap.size ≤ D from Nat.le_trans (Nat.le_trans HT0.out.size HF6.out.1.size) hD)
      have HI7 := Lib.hid (HI6.out.turn hto fun b e => by rw [show b = gl from e]; exact HGL6.out.2.2.2)
      have HF7 := Lib.hid (show Fr w0 x H W from ⟨HF6.out.1.trans hto fun k hk e => by have := HGL6.out.2.2.1; have e : k = gl := e; omega, HF6.out.2⟩)
      have HB17 := Lib.hid hv.b1
      clear hto hv hys hD hK
      simp only [Exit.inBlock, Exit.then]
      rename_i K9 hK9
      refine hK9 _ _ ?_
      clear hK9 K9
      go_upto_region 24 with fail
      refine wp_region_lit ?_
      refine wpList_run (v := .int .i64 ((m0 : Int) + 2)) (wanted_none rfl) (exec_move rfl rfl) ?_
      simp only [Act.put, List.setIfInBounds_toArray, List.set_cons_zero, List.set_cons_succ]
      refine wpList_run (v := .pointer (some ⟨x, 0, none⟩)) (wanted_none rfl) (exec_move rfl rfl) ?_
      simp only [Act.put, List.setIfInBounds_toArray, List.set_cons_zero, List.set_cons_succ]
      refine wpList_op rfl fun K9 HK9 => ?_
      go_wp2_with fail
      refine ((Depth_walk HI7.out)).mono ?_
      rintro e w8 ⟨⟨dn, rfl, hdp⟩, hw8⟩
      refine HK9.out _ _ ?_
      clear HK9
      try simp only [Act.put, List.setIfInBounds_toArray, List.set_cons_zero, List.set_cons_succ]
      replace hw8 := hw8.symm
      subst hw8
      have HDW := Lib.hid (show Calls Try.prog 19 #[.int .i64 ((m0 : Int) + 2), .int .i64 (dn : Int), .int .i64 (n : Int)] W _ from by
        have h := deep_walk (w := W) hdp (by omega) (by have := HALL.out.len; have := HN.out; omega)
        rw [HALL.out.len, show ((m0 + 2 : Nat) : Int) = (m0 : Int) + 2 by omega] at h
        exact h)
      clear hdp
      refine wpList_run (v := .int .i64 (n : Int)) (wanted_none rfl) (exec_move rfl rfl) ?_
      simp only [Act.put, List.setIfInBounds_toArray, List.set_cons_zero, List.set_cons_succ]
      refine wpList_op rfl fun K9 HK9 => ?_
      go_wp2_with fail
      refine (HDW.out).mono ?_
      rintro e w8 ⟨rfl, hw8⟩
      refine HK9.out _ _ ?_
      clear HK9
      try simp only [Act.put, List.setIfInBounds_toArray, List.set_cons_zero, List.set_cons_succ]
      replace hw8 := hw8.symm
      subst hw8
      clear HDW
      refine wpList_run (v := .bool true) (wanted_none rfl) (gx_assign rfl rfl) ?_
      simp only [Act.put, List.setIfInBounds_toArray, List.set_cons_zero, List.set_cons_succ]
      go_upto_region 25 with fail
      refine wp_region_lit ?_
      refine wpList_run (v := .bool true) (wanted_none rfl) (exec_move rfl rfl) ?_
      simp only [Act.put, List.setIfInBounds_toArray, List.set_cons_zero, List.set_cons_succ]
      refine wpList_run (v := .bool false) (wanted_none rfl) (ix_not (b := true) rfl rfl) ?_
      simp only [Act.put, List.setIfInBounds_toArray, List.set_cons_zero, List.set_cons_succ]
      go_upto_region 27 with fail
      refine wp_region_lit ?_
      refine wpList_run (v := .int .i64 0) (wanted_none rfl) (gx_assign rfl rfl) ?_
      simp only [Act.put, List.setIfInBounds_toArray, List.set_cons_zero, List.set_cons_succ]
      go_upto_region 28 with fail
      refine wp_region_lit ?_
      refine wpList_run (v := .int .i64 0) (wanted_none rfl) (gx_assign rfl rfl) ?_
      simp only [Act.put, List.setIfInBounds_toArray, List.set_cons_zero, List.set_cons_succ]
      go_wp2_with fail
      generalize gk = gk0 at *
      generalize hwr : wr = wr0 at *
      clear hwr
      go_loopg [13, 21] n (fun gk kv iv wr => ∃ (i : Nat) (H : Hp) (l : List Pr), kv = .int .i64 (sq two n i : Int) ∧ iv = .int .i64 (i : Int) ∧ i + gk = n ∧ Idx wr x H (m0 + 2) l (n + i) ∧ DropTo two n i l ∧ Fr w0 x H wr ∧ wr.heap[D]? = some (.deferred (some [])))
      case atStart => exact ⟨0, _, _, by rw [sq_zero]; rfl, rfl, by omega, HI7.out, drop_start HN.out HALL.out, HF7.out, HKD.out⟩
      obtain ⟨i, H2, l2, rfl, rfl, hgk, hi, hs, hf, hkd⟩ := hrel
      have HGK2 := Lib.hid hgk
      have HI2b := Lib.hid hi
      have HS2b := Lib.hid hs
      have HF2b := Lib.hid hf
      have HKD2 := Lib.hid hkd
      have yi2 : (i : Int) ≤ (n : Int) := by omega
      clear hgk hi hs hf hkd
      by_cases hlt : i < n
      · have HLT := Lib.hid hlt
        have y3 : (i : Int) < (n : Int) := by omega
        have HSQ := Lib.hid (show sq two n i < n ∧ two ≤ 602 ∧ n ≤ 600 from ⟨sq_lt (by omega), HS2.out.2, HN.out⟩)
        have y4 : (sq two n i : Int) < (n : Int) := by have := HSQ.out; omega
        have HOD := Lib.hid (HI2b.out.not_def HKD2.out)
        clear hlt
        go_upto_region 29 with fail
        refine wp_region_lit ?_
        refine wpList_run (v := .int .i64 (i : Int)) (wanted_none rfl) (exec_move rfl rfl) ?_
        simp only [Act.put, List.setIfInBounds_toArray, List.set_cons_zero, List.set_cons_succ]
        refine wpList_run (v := .int .i64 (n : Int)) (wanted_none rfl) (exec_move rfl rfl) ?_
        simp only [Act.put, List.setIfInBounds_toArray, List.set_cons_zero, List.set_cons_succ]
        refine wpList_run (v := .bool true) (wanted_none rfl) (ix_lss rfl rfl rfl (decide_eq_true y3)) ?_
        simp only [Act.put, List.setIfInBounds_toArray, List.set_cons_zero, List.set_cons_succ]
        go_upto_region 31 with fail
        refine wp_region_lit ?_
        refine wpList_run (v := .pointer (some ⟨x, 0, none⟩)) (wanted_none rfl) (exec_move rfl rfl) ?_
        simp only [Act.put, List.setIfInBounds_toArray, List.set_cons_zero, List.set_cons_succ]
        refine wpList_run (v := .int .i64 (sq two n i : Int)) (wanted_none rfl) (exec_move rfl rfl) ?_
        simp only [Act.put, List.setIfInBounds_toArray, List.set_cons_zero, List.set_cons_succ]
        refine wpList_op rfl fun K9 HK9 => ?_
        go_wp2_with fail
        refine ((key_walk (w := wr) (n := sq two n i) (by have := HSQ.out; omega))).mono ?_
        rintro e w9 ⟨rfl, ht9⟩
        refine HK9.out _ _ ?_
        clear HK9
        try simp only [Act.put, List.setIfInBounds_toArray, List.set_cons_zero, List.set_cons_succ]
        have HI9 := Lib.hid (HI2b.out.still ht9)
        have HF9 := Lib.hid (HF2b.out.still ht9)
        have HK9 := Lib.hid ((ht9.at_heap HKD2.out fun e => e))
        have HD := Lib.hid (show Calls Try.prog 12 #[.pointer (some ⟨x, 0, none⟩), strV (kk (sq two n i))] w9 fun e w' => e = .returned (.tuple #[.int .i64 (sq two n i : Int), .bool true]) ∧ IdxTo w9 x H2 (m0 + 2) (ldrop (kk (sq two n i)) l2) (n + i + 1) w' from by
          have h := Drop_walk (k := kk (sq two n i)) HI9.out (by have := HLT.out; have := HN.out; omega)
          rw [drop_get HS2.out.1 HLT.out HS2b.out] at h
          exact h)
        clear ht9
        refine wpList_op rfl fun K9 HK9 => ?_
        go_wp2_with fail
        refine (HD.out).mono ?_
        rintro e w10 ⟨rfl, H10, h1, h2, h3⟩
        refine HK9.out _ _ ?_
        clear HK9
        try simp only [Act.put, List.setIfInBounds_toArray, List.set_cons_zero, List.set_cons_succ]
        obtain ⟨l3, hl3⟩ : ∃ q, q = ldrop (kk (sq two n i)) l2 := ⟨_, rfl⟩
        rw [← hl3] at h1
        have HI10 := Lib.hid h1
        have HF10 := Lib.hid (HF9.out.to h2 h3)
        have HS10 := Lib.hid (show DropTo two n (i + 1) l3 from by rw [hl3]; exact drop_next1 HS2.out.1 HN.out HLT.out HS2b.out)
        have HGN := Lib.hid (show lget (kk (sq two n i)) l3 = none from by rw [hl3]; exact lget_dropped _ _)
        have HK10 := Lib.hid (h2.at_heap HK9.out HOD.out)
        clear h1 h2 h3 HD hl3
        refine wpList_run (v := .tuple #[.int .i64 (sq two n i : Int), .bool true]) (wanted_none rfl) (exec_move rfl rfl) ?_
        simp only [Act.put, List.setIfInBounds_toArray, List.set_cons_zero, List.set_cons_succ]
        refine wpList_run (v := .int .i64 (sq two n i : Int)) (wanted_none rfl) (ix_extract rfl rfl rfl) ?_
        simp only [Act.put, List.setIfInBounds_toArray, List.set_cons_zero, List.set_cons_succ]
        refine wpList_run (v := .bool true) (wanted_none rfl) (ix_extract rfl rfl rfl) ?_
        simp only [Act.put, List.setIfInBounds_toArray, List.set_cons_zero, List.set_cons_succ]
        refine wpList_run (v := .int .i64 (sq two n i : Int)) (wanted_none rfl) (gx_assign rfl rfl) ?_
        simp only [Act.put, List.setIfInBounds_toArray, List.set_cons_zero, List.set_cons_succ]
        refine wpList_run (v := .bool true) (wanted_none rfl) (gx_assign rfl rfl) ?_
        simp only [Act.put, List.setIfInBounds_toArray, List.set_cons_zero, List.set_cons_succ]
        go_upto_region 32 with fail
        refine wp_region_lit ?_
        refine wpList_run (v := .pointer (some ⟨x, 0, none⟩)) (wanted_none rfl) (exec_move rfl rfl) ?_
        simp only [Act.put, List.setIfInBounds_toArray, List.set_cons_zero, List.set_cons_succ]
        refine wpList_run (v := .int .i64 (sq two n i : Int)) (wanted_none rfl) (exec_move rfl rfl) ?_
        simp only [Act.put, List.setIfInBounds_toArray, List.set_cons_zero, List.set_cons_succ]
        refine wpList_op rfl fun K9 HK9 => ?_
        go_wp2_with fail
        refine ((key_walk (w := w10) (n := sq two n i) (by have := HSQ.out; omega))).mono ?_
        rintro e w11 ⟨rfl, ht11⟩
        refine HK9.out _ _ ?_
        clear HK9
        try simp only [Act.put, List.setIfInBounds_toArray, List.set_cons_zero, List.set_cons_succ]
        have HI11 := Lib.hid (HI10.out.still ht11)
        have HF11 := Lib.hid (HF10.out.still ht11)
        have HK11 := Lib.hid (ht11.at_heap HK10.out fun e => e)
        have HG := Lib.hid (show Calls Try.prog 14 #[.pointer (some ⟨x, 0, none⟩), strV (kk (sq two n i))] w11 fun e w' => e = .returned (.tuple #[.int .i64 0, .bool false]) ∧ Turn nowhere w11 w' from by
          have h := Get_walk (k := kk (sq two n i)) HI11.out
          rw [HGN.out] at h
          exact h)
        clear ht11
        refine wpList_op rfl fun K9 HK9 => ?_
        go_wp2_with fail
        refine (HG.out).mono ?_
        rintro e w12 ⟨rfl, ht12⟩
        refine HK9.out _ _ ?_
        clear HK9
        try simp only [Act.put, List.setIfInBounds_toArray, List.set_cons_zero, List.set_cons_succ]
        have HI12 := Lib.hid (HI11.out.still ht12)
        have HF12 := Lib.hid (HF11.out.still ht12)
        have HK12 := Lib.hid (ht12.at_heap HK11.out fun e => e)
        clear ht12 HG
        refine wpList_run (v := .tuple #[.int .i64 0, .bool false]) (wanted_none rfl) (exec_move rfl rfl) ?_
        simp only [Act.put, List.setIfInBounds_toArray, List.set_cons_zero, List.set_cons_succ]
        refine wpList_run (v := .int .i64 0) (wanted_none rfl) (ix_extract rfl rfl rfl) ?_
        simp only [Act.put, List.setIfInBounds_toArray, List.set_cons_zero, List.set_cons_succ]
        refine wpList_run (v := .bool false) (wanted_none rfl) (ix_extract rfl rfl rfl) ?_
        simp only [Act.put, List.setIfInBounds_toArray, List.set_cons_zero, List.set_cons_succ]
        refine wpList_run (v := .int .i64 0) (wanted_none rfl) (gx_assign rfl rfl) ?_
        simp only [Act.put, List.setIfInBounds_toArray, List.set_cons_zero, List.set_cons_succ]
        refine wpList_run (v := .bool false) (wanted_none rfl) (gx_assign rfl rfl) ?_
        simp only [Act.put, List.setIfInBounds_toArray, List.set_cons_zero, List.set_cons_succ]
        go_upto_region 33 with fail
        refine wp_region_lit ?_
        refine wpList_run (v := .int .i64 ((m0 : Int) + 2)) (wanted_none rfl) (exec_move rfl rfl) ?_
        simp only [Act.put, List.setIfInBounds_toArray, List.set_cons_zero, List.set_cons_succ]
        refine wpList_run (v := .pointer (some ⟨x, 0, none⟩)) (wanted_none rfl) (exec_move rfl rfl) ?_
        simp only [Act.put, List.setIfInBounds_toArray, List.set_cons_zero, List.set_cons_succ]
        refine wpList_op rfl fun K9 HK9 => ?_
        go_wp2_with fail
        refine ((Depth_walk HI12.out)).mono ?_
        rintro e w13 ⟨⟨dn2, rfl, hdp⟩, hw13⟩
        refine HK9.out _ _ ?_
        clear HK9
        try simp only [Act.put, List.setIfInBounds_toArray, List.set_cons_zero, List.set_cons_succ]
        replace hw13 := hw13.symm
        subst hw13
        have HDW := Lib.hid (show Calls Try.prog 19 #[.int .i64 ((m0 : Int) + 2), .int .i64 (dn2 : Int), .int .i64 ((n - i - 1 : Nat) : Int)] w12 _ from by
          have hl := HS10.out.2.1
          have h := deep_walk (w := w12) hdp (by omega) (by have := HN.out; omega)
          rw [show l3.length = n - i - 1 by omega, show ((m0 + 2 : Nat) : Int) = (m0 : Int) + 2 by omega] at h
          exact h)
        clear hdp
        refine wpList_run (v := .int .i64 (n : Int)) (wanted_none rfl) (exec_move rfl rfl) ?_
        simp only [Act.put, List.setIfInBounds_toArray, List.set_cons_zero, List.set_cons_succ]
        refine wpList_run (v := .int .i64 (i : Int)) (wanted_none rfl) (exec_move rfl rfl) ?_
        simp only [Act.put, List.setIfInBounds_toArray, List.set_cons_zero, List.set_cons_succ]
        refine wpList_run (v := .int .i64 ((n - i : Nat) : Int)) (wanted_none rfl) (ix_sub rfl rfl rfl (by omega) (by omega)) ?_
        simp only [Act.put, List.setIfInBounds_toArray, List.set_cons_zero, List.set_cons_succ]
        refine wpList_run (v := .int .i64 ((n - i - 1 : Nat) : Int)) (wanted_none rfl) (ix_sub rfl rfl rfl (by omega) (by omega)) ?_
        simp only [Act.put, List.setIfInBounds_toArray, List.set_cons_zero, List.set_cons_succ]
        refine wpList_op rfl fun K9 HK9 => ?_
        go_wp2_with fail
        refine (HDW.out).mono ?_
        rintro e w13 ⟨rfl, hw13⟩
        refine HK9.out _ _ ?_
        clear HK9
        try simp only [Act.put, List.setIfInBounds_toArray, List.set_cons_zero, List.set_cons_succ]
        replace hw13 := hw13.symm
        subst hw13
        clear HDW
        refine wpList_run (v := .bool true) (wanted_none rfl) (gx_assign rfl rfl) ?_
        simp only [Act.put, List.setIfInBounds_toArray, List.set_cons_zero, List.set_cons_succ]
        go_upto_region 34 with fail
        refine wp_region_lit ?_
        refine wpList_run (v := .bool true) (wanted_none rfl) (exec_move rfl rfl) ?_
        simp only [Act.put, List.setIfInBounds_toArray, List.set_cons_zero, List.set_cons_succ]
        refine wpList_run (v := .bool false) (wanted_none rfl) (ix_not (b := true) rfl rfl) ?_
        simp only [Act.put, List.setIfInBounds_toArray, List.set_cons_zero, List.set_cons_succ]
        refine wpList_run (v := .bool false) (wanted_none rfl) (exec_move rfl rfl) ?_
        simp only [Act.put, List.setIfInBounds_toArray, List.set_cons_zero, List.set_cons_succ]
        refine wpList_run (v := .int .i64 (sq two n i : Int)) rfl (exec_move rfl rfl) ?_
        simp only [Act.put, List.setIfInBounds_toArray, List.set_cons_zero, List.set_cons_succ]
        refine wpList_run (v := .int .i64 (sq two n i : Int)) rfl (exec_move rfl rfl) ?_
        simp only [Act.put, List.setIfInBounds_toArray, List.set_cons_zero, List.set_cons_succ]
        refine wpList_run (v := .bool false) rfl (ix_neq rfl rfl rfl (decide_eq_false (fun e => e rfl))) ?_
        simp only [Act.put, List.setIfInBounds_toArray, List.set_cons_zero, List.set_cons_succ]
        refine wpList_run (v := .bool false) (wanted_none rfl) (ix_pickF rfl rfl rfl) ?_
        simp only [Act.put, List.setIfInBounds_toArray, List.set_cons_zero, List.set_cons_succ]
        refine wpList_run (v := .bool false) (wanted_none rfl) (exec_move rfl rfl) ?_
        simp only [Act.put, List.setIfInBounds_toArray, List.set_cons_zero, List.set_cons_succ]
        refine wpList_run (v := .bool false) rfl (exec_move rfl rfl) ?_
        simp only [Act.put, List.setIfInBounds_toArray, List.set_cons_zero, List.set_cons_succ]
        refine wpList_run (v := .bool false) (wanted_none rfl) (ix_pickF rfl rfl rfl) ?_
        simp only [Act.put, List.setIfInBounds_toArray, List.set_cons_zero, List.set_cons_succ]
        refine wpList_run (v := .bool false) (wanted_none rfl) (exec_move rfl rfl) ?_
        simp only [Act.put, List.setIfInBounds_toArray, List.set_cons_zero, List.set_cons_succ]
        refine wpList_run (v := .bool true) rfl (exec_move rfl rfl) ?_
        simp only [Act.put, List.setIfInBounds_toArray, List.set_cons_zero, List.set_cons_succ]
        refine wpList_run (v := .bool false) rfl (ix_not (b := true) rfl rfl) ?_
        simp only [Act.put, List.setIfInBounds_toArray, List.set_cons_zero, List.set_cons_succ]
        refine wpList_run (v := .bool false) (wanted_none rfl) (ix_pickF rfl rfl rfl) ?_
        simp only [Act.put, List.setIfInBounds_toArray, List.set_cons_zero, List.set_cons_succ]
        go_upto_region 36 with fail
        refine wp_region_lit ?_
        refine wpList_run (v := .int .i64 (sq two n i : Int)) (wanted_none rfl) (exec_move rfl rfl) ?_
        simp only [Act.put, List.setIfInBounds_toArray, List.set_cons_zero, List.set_cons_succ]
        refine wpList_run (v := .int .i64 (two : Int)) (wanted_none rfl) (exec_move rfl rfl) ?_
        simp only [Act.put, List.setIfInBounds_toArray, List.set_cons_zero, List.set_cons_succ]
        refine wpList_run (v := .int .i64 ((sq two n i + two : Nat) : Int)) (wanted_none rfl) (ix_add rfl rfl rfl (by omega) (by omega)) ?_
        simp only [Act.put, List.setIfInBounds_toArray, List.set_cons_zero, List.set_cons_succ]
        refine wpList_run (v := .int .i64 (n : Int)) (wanted_none rfl) (exec_move rfl rfl) ?_
        simp only [Act.put, List.setIfInBounds_toArray, List.set_cons_zero, List.set_cons_succ]
        refine wpList_run (v := .int .i64 (sq two n (i + 1) : Int)) (wanted_none rfl) (by rw [← sq_next]; exact ix_rem (n := sq two n i + two) (m := n) rfl rfl rfl (by have := HLT.out; omega) (by have := HSQ.out; omega)) ?_
        simp only [Act.put, List.setIfInBounds_toArray, List.set_cons_zero, List.set_cons_succ]
        refine wpList_run (v := .int .i64 (sq two n (i + 1) : Int)) (wanted_none rfl) (gx_assign rfl rfl) ?_
        simp only [Act.put, List.setIfInBounds_toArray, List.set_cons_zero, List.set_cons_succ]
        go_upto_region 30 with fail
        refine wp_region_lit ?_
        refine wpList_run (v := .int .i64 (i : Int)) (wanted_none rfl) (exec_move rfl rfl) ?_
        simp only [Act.put, List.setIfInBounds_toArray, List.set_cons_zero, List.set_cons_succ]
        refine wpList_run (v := .int .i64 ((i + 1 : Nat) : Int)) (wanted_none rfl) (ix_add rfl rfl rfl (by omega) (by omega)) ?_
        simp only [Act.put, List.setIfInBounds_toArray, List.set_cons_zero, List.set_cons_succ]
        refine wpList_run (v := .int .i64 ((i + 1 : Nat) : Int)) (wanted_none rfl) (gx_assign rfl rfl) ?_
        simp only [Act.put, List.setIfInBounds_toArray, List.set_cons_zero, List.set_cons_succ]
        go_wp2_with fail
        go_roundg (n - (i + 1))
        case measure => have := HGK2.out; have := HLT.out; omega
        case rel => exact ⟨i + 1, H10, l3, rfl, rfl, by have := HLT.out; omega, HI12.out, HS10.out, HF12.out, HK12.out⟩
      · obtain rfl : n = i := by have := HGK2.out; omega
        have HL0 := Lib.hid (show l2.length = 0 from by have := HS2b.out.2.1; omega)
        have HLN := Lib.hid (show Calls Try.prog 21 #[.pointer (some ⟨x, 0, none⟩)] wr fun e w' => e = .returned (.int .i64 0) ∧ w' = wr from by
          have h := Len_walk HI2b.out
          rw [HL0.out] at h
          exact h)
        have HDP := Lib.hid (show Calls Try.prog 20 #[.pointer (some ⟨x, 0, none⟩)] wr fun e w' => e = .returned (.int .i64 0) ∧ w' = wr from (Depth_walk HI2b.out).mono fun e w' h => by
          obtain ⟨⟨dn, e1, h1⟩, h2⟩ := h
          rcases deep_of h1 with ⟨h3, _⟩ | ⟨d, _, h3, _⟩
          · rw [h3] at e1
            exact ⟨e1, h2⟩
          · have := HL0.out
            omega)
        clear hlt
        go_upto_region 29 with fail
        refine wp_region_lit ?_
        refine wpList_run (v := .int .i64 (n : Int)) (wanted_none rfl) (exec_move rfl rfl) ?_
        simp only [Act.put, List.setIfInBounds_toArray, List.set_cons_zero, List.set_cons_succ]
        refine wpList_run (v := .int .i64 (n : Int)) (wanted_none rfl) (exec_move rfl rfl) ?_
        simp only [Act.put, List.setIfInBounds_toArray, List.set_cons_zero, List.set_cons_succ]
        refine wpList_run (v := .bool false) (wanted_none rfl) (ix_lss rfl rfl rfl (decide_eq_false (by omega))) ?_
        simp only [Act.put, List.setIfInBounds_toArray, List.set_cons_zero, List.set_cons_succ]
        go_upto_region 37 with fail
        refine wp_region_lit ?_
        refine wpList_run (v := .pointer (some ⟨x, 0, none⟩)) (wanted_none rfl) (exec_move rfl rfl) ?_
        simp only [Act.put, List.setIfInBounds_toArray, List.set_cons_zero, List.set_cons_succ]
        refine wpList_op rfl fun K9 HK9 => ?_
        go_wp2_with fail
        refine (HLN.out).mono ?_
        rintro e w9 ⟨rfl, hw9⟩
        refine HK9.out _ _ ?_
        clear HK9
        try simp only [Act.put, List.setIfInBounds_toArray, List.set_cons_zero, List.set_cons_succ]
        replace hw9 := hw9.symm
        subst hw9
        clear HLN
        refine wpList_run (v := .bool true) (wanted_none rfl) (ix_eql rfl rfl rfl (by decide)) ?_
        simp only [Act.put, List.setIfInBounds_toArray, List.set_cons_zero, List.set_cons_succ]
        refine wpList_run (v := .bool true) (wanted_none rfl) (exec_move rfl rfl) ?_
        simp only [Act.put, List.setIfInBounds_toArray, List.set_cons_zero, List.set_cons_succ]
        refine wpList_run (v := .pointer (some ⟨x, 0, none⟩)) rfl (exec_move rfl rfl) ?_
        simp only [Act.put, List.setIfInBounds_toArray, List.set_cons_zero, List.set_cons_succ]
        refine wpList_op (by go_simp) fun K9 HK9 => ?_
        go_wp2_with fail
        refine (HDP.out).mono ?_
        rintro e w9 ⟨rfl, hw9⟩
        refine HK9.out _ _ ?_
        clear HK9
        try simp only [Act.put, List.setIfInBounds_toArray, List.set_cons_zero, List.set_cons_succ]
        replace hw9 := hw9.symm
        subst hw9
        clear HDP
        refine wpList_run (v := .bool true) rfl (ix_eql rfl rfl rfl (by decide)) ?_
        simp only [Act.put, List.setIfInBounds_toArray, List.set_cons_zero, List.set_cons_succ]
        refine wpList_run (v := .bool true) (wanted_none rfl) (ix_pickT rfl rfl rfl) ?_
        simp only [Act.put, List.setIfInBounds_toArray, List.set_cons_zero, List.set_cons_succ]
        refine wpList_storeU 0 (.bool true) (wanted_none rfl) 4 _ _ rfl (HB1.out.turn HF2b.out.1 fun e => e) rfl rfl (by show 0 < 1; omega) ⟨rfl, rfl⟩ (by kernel_rfl) ?_
        intro w9 hb9 ht9
        simp only [Act.put, List.setIfInBounds_toArray, List.set_cons_zero, List.set_cons_succ]
        have HK9 := Lib.hid (ht9.at_heap HKD2.out fun e => by
          have e : D = g1 := e
          have hb := HB1.out.turn HF2b.out.1 fun e => e
          have hb : wr.heap[g1]? = some (.cells #[.bool false] 4 (0, 0)) := hb
          have hk := HKD2.out
          rw [e, hb] at hk
          cases hk)
        have HB9 := Lib.hid hb9
        have HT9 := Lib.hid ht9
        clear hb9 ht9

        go_wp2_with fail
        refine ⟨by simp, .inl ⟨_, _, rfl, run_takeDeferred HK9.out, ?_⟩⟩
        have hb9 : Blk (w9.putObj D (.deferred none)) g1 4 #[.bool true] := HB9.out.by_ (grownBy_putObj' w9 D _) fun r e => by cases e; exact ⟨_, HK9.out, rfl⟩
        have hc9 : (w9.putObj D (.deferred none)).cell? ⟨g1, 0, none⟩ = some (.bool true) := hb9.cell 0
        refine ⟨.bool true, ?_, rfl, ?_⟩
        · simp [results, Try.f4]
          go_simp
        · have h1 := HT0.out.trans HF2b.out.1 fun _ _ e => e
          have h2 := h1.trans HT9.out fun k hk e => by have := HG.out.2; have e : k = g1 := e; omega
          exact h2.grown (grownBy_putObj' w9 D _) fun g e hg => by cases e; have := HDL.out; omega
    case stop =>
      rintro D c pre W hD hS hv hK
      exact (not_wrong HALL.out HN.out (by rw [rngOf_all HALL.out.srt] at hS; exact hS) hv.2).elim
theorem indexMany_walk (c1 c2 a0 a1 : Int) (W : World) (hc1 : -9223372036854775808 ≤ c1 ∧ c1 ≤ 9223372036854775807) (hc2 : -9223372036854775808 ≤ c2 ∧ c2 ≤ 9223372036854775807) (ha0 : -9223372036854775808 ≤ a0 ∧ a0 ≤ 9223372036854775807) (ha1 : -9223372036854775808 ≤ a1 ∧ a1 ≤ 9223372036854775807) :
    Calls Try.prog 4 #[.int .i64 c1, .int .i64 c2, .agg #[.int .i64 a0, .int .i64 a1]] W fun e W' => e = .returned (.bool true) ∧ Below W.heap.size W W' :=
  (many_walk hc1 hc2 ha0 ha1).mono fun e W' h => ⟨h.1, h.2.below (Nat.le_refl _) fun _ _ e => e⟩
end Go.Proofs.Ytmlkdkbpbleilaa

namespace Go.Proofs.Ytmlkdkbpbleilaa.indexMany
open Go.ChangeShapes Go.WideShapes Go.ChangeAt Go.RowKit
open Go.ChangeMaps (open_string shut_string)
set_option linter.unusedVariables false

theorem cells_iarr2 : Try.prog.cellsOf 44 = 2 := by kernel_rfl
theorem own : ownKnob Try.prog.godebug = none := by kernel_rfl
theorem laidOut : laidOutB Try.prog = true := by kernel_rfl

set_option maxRecDepth 100000 in
/-- WHAT THE WALK GIVES, FOR EVERY ARGUMENT AND EVERY WORLD: the same for both forms. -/
theorem contract (H : Type) (enc : TypeId × Value → H) (W : World) (base : Nat) (args : Array Value) (ds gs : List (DataW H)) (before : List MemPlace)
    (hval : ∀ (j : Nat) t v, Try.f4.params[j]? = some t → args[j]? = some v → Value.okWide Try.prog W .any base t v)
    (hW : DataW.Whole enc Try.prog Try.f4.params.toList Rows.indexManySpec.vars false W args.toList ds gs before) (hsz0 : (DataW.weightsEach Try.prog (Try.f4.params.toList ++ Rows.indexManySpec.plain.varTypes Try.prog) (ds ++ gs)).all (· ≤ reachBytes) = true) (hL : laidMetH Try.prog Rows.indexManyRow.laid W) (hsh : W.ShapedOpen Try.prog) :
    Calls Try.prog 4 args W fun e W' => ∃ v, e = .returned v ∧ Rows.indexManySpec.post enc Try.prog Try.f4 false true false false W args v W' := by
  have hW' := hW
  obtain ⟨p, q, hA0, hV, rfl, hfz, hnd⟩ := hW
  have hA : DataW.TrodAll enc Try.prog W 0 (fun _ => true) true Try.f4.params.toList args.toList ds p := hA0
  have hsz : (DataW.weightsEach Try.prog (Try.f4.params.toList ++ Rows.indexManySpec.plain.varTypes Try.prog) (ds ++ gs)).all (· ≤ reachBytes) = true := hsz0
  rw [Try.params4] at hA hval hsz
  obtain ⟨v0, vs0, d0, ds0, p0, q0, hargs, rfl, rfl, h0, r0⟩ := trodAll_cons hA
  obtain ⟨v1, vs1, d1, ds1, p1, q1, rfl, rfl, rfl, h1, r1⟩ := trodAll_cons r0
  obtain ⟨v2, vs2, d2, ds2, p2, q2, rfl, rfl, rfl, h2, r2⟩ := trodAll_cons r1
  obtain ⟨rfl, rfl, rfl⟩ := trodAll_nil r2
  obtain rfl : args = #[v0, v1, v2] := by cases args; simp_all
  obtain ⟨rfl, rfl⟩ := trodVars_none hV
  obtain ⟨x0, rfl, rfl, rfl, w0⟩ := open_int Try.underlying3 (hval 0 3 v0 rfl rfl) h0
  obtain ⟨x1, rfl, rfl, rfl, w1⟩ := open_int Try.underlying3 (hval 1 3 v1 rfl rfl) h1
  obtain ⟨xa2, xb2, rfl, rfl, rfl, wa2, wb2⟩ := open_iarr2 Try.underlying44 Try.underlying3 (by kernel_rfl) cells_iarr2 (hval 2 44 v2 rfl rfl) h2
  clear hA0
  refine (indexMany_walk x0 x1 xa2 xb2 W (i64_in w0) (i64_in w1) (i64_in wa2) (i64_in wb2)).mono fun e W' ⟨he, bel⟩ => ?_
  subst he
  exact ⟨_, rfl, _, _, _, [], _, [], hW', trodAll_mk1 (shut_bool Try.underlying4 _), (trodAll_cons_mk (shut_int Try.underlying3 w0) (trodAll_cons_mk (shut_int Try.underlying3 w1) (trodAll_cons_mk (shut_iarr2 Try.underlying44 Try.underlying3 (by kernel_rfl) cells_iarr2 wa2 wb2) trodAll_mk0))), rfl, bel.frame _, fun h => by cases h⟩

theorem laid_met (os : Os) : laidMet Try.prog Rows.indexManyRow.laid ((World.holding Try.prog os ⟨#[], #[], []⟩).forCall (fun _ _ => 0) ⟨#[], #[.int .i64 0, .int .i64 0, .agg #[.int .i64 0, .int .i64 0]], []⟩).memory :=
  laidMet_of_run' 8 (by kernel_rfl) (by kernel_rfl)
theorem reads (os : Os) {H : Type} (enc : TypeId × Value → H) : ∃ places, DataW.whole enc Try.prog ((World.holding Try.prog os ⟨#[], #[], []⟩).forCall (fun _ _ => 0) ⟨#[], #[.int .i64 0, .int .i64 0, .agg #[.int .i64 0, .int .i64 0]], []⟩).memory Try.f4.params.toList Rows.indexManySpec.vars false [.int .i64 0, .int .i64 0, .agg #[.int .i64 0, .int .i64 0]] 8 = some ([.lit (.int .i64 0), .lit (.int .i64 0), .agg [.lit (.int .i64 0), .lit (.int .i64 0)]], [], places) :=
  ⟨[], by kernel_rfl⟩

set_option maxRecDepth 100000 in
theorem lifted (os : Os) (started : os.Started) (H : Type) (enc : TypeId × Value → H) (F : Stop.Interp) :
    ReturnsInHanded {} Try.checked os 4 .any ((OpenSpec.ofChange Rows.indexManySpec).preRow enc Try.prog Try.f4 Rows.indexManyRow.domain false Rows.indexManyRow.laid) (((OpenSpec.ofChange Rows.indexManySpec).at F).post enc Try.prog Try.f4 false true false false) := by
  obtain ⟨places, hx⟩ := reads os enc
  refine returnsInHanded_of_row (C := Try.checked) (s := OpenSpec.ofChange Rows.indexManySpec) own started (by kernel_rfl) Try.func4
    (witness_row_atRef (enc := enc) (C := Try.checked) false (World.holding Try.prog os ⟨#[], #[], []⟩) #[.int .i64 0, .int .i64 0, .agg #[.int .i64 0, .int .i64 0]] rfl (by kernel_rfl) (by kernel_rfl) (by kernel_rfl)
      (OpenSpec.preRow_of_cond 8 hx (by kernel_rfl) (fun k hk => by cases hk) (by kernel_rfl) (laid_met os))) ?_
  intro W base args ds gs before hval hW _ hcond hsz hL hsh _
  exact contract H enc W base args ds gs before hval hW hsz hL hsh

theorem said : Rows.IndexManySaid :=
  OpenClaim.holds_of_cond 4 Try.f4 rfl rfl rfl rfl rfl rfl rfl ⟨rfl, rfl, rfl, rfl, rfl⟩ rfl rfl rfl rfl rfl (by kernel_rfl) Try.func4 (by kernel_rfl)
    (of_decide_eq_true (by kernel_rfl)) (by unfold Func.isWrapper; first | (rw [if_pos (by decide +kernel)]; kernel_rfl) | (rw [if_neg (by decide +kernel)]; exact ⟨rfl, rfl⟩))
    (fun os started H enc _ F => by rw [OpenClaim.pre_eq_preRow]; exact lifted os started H enc F)

end Go.Proofs.Ytmlkdkbpbleilaa.indexMany
