/-
  Two plants, the code's and the reference's, alike in plain data: what a call tells and makes of both. No conditions.
-/
import Derived.Test.YteedjfgandgbkaaPpN
import Derived.Test.YteedjfgandgbkaaPpG
import Derived.Test.YteedjfgandgbkaaPlCb
namespace Go.Proofs.Yteedjfgandgbkaa
open Go.RowKit Go.Maps
set_option linter.unusedVariables false
set_option linter.unusedSimpArgs false
/-- the bounds of a plant's numbers -/
structure Gd (s : AP) (a : RP) (K : Nat) : Prop where
  lk : Lk s a
  f1 : -9223372036854775808 ≤ s.fuse
  f2 : s.fuse ≤ 9223372036854775807
  s1 : 0 ≤ s.steps
  s2 : s.steps ≤ K
  r : a.R.length ≤ K
theorem Gd.of {s : AP} {a : RP} {K : Nat} {w : World} {x : Nat} {F : Nat → Prop} (h : PlantAt w x F s K) (hl : Lk s a) (hr : a.R.length ≤ K) : Gd s a K := by
  obtain ⟨db, cp, C, dv, h1, hD, hF, g1, g2, g3, g4, g5, g6⟩ := h
  exact ⟨hl, g3, g4, g5, g6, hr⟩
theorem Goes2.mono {w w' : World} {p : Nat} {F : Nat → Prop} {s : AP} {K K' : Nat} (h : Goes2 w p F w' s K) (hK : K ≤ K') : Goes2 w p F w' s K' := by
  obtain ⟨F', h1, h2, h3⟩ := h
  exact ⟨F', h1.mono hK, h2, h3⟩
theorem Goes2.same {w w' : World} {p : Nat} {F : Nat → Prop} {s : AP} {K K' : Nat} (h : PlantAt w p F s K) (hK : K ≤ K') (e : w = w') : Goes2 w p F w' s K' := by
  subst e
  exact Goes2.of_turn (h.mono hK) (Turn.refl _ _)
theorem RTo.same {w w' : World} {q : Nat} {G Z : Nat → Prop} {a : RP} (h : RAt w q G Z a) (e : w' = w) : RTo w q G Z a w' := by
  subst e
  exact h.to_still (Turn.refl _ _)
/-- which of three: the power is off; no such place; a place -/
theorem spot_cases {s : AP} {a : RP} (hl : Lk s a) (dev place : Int) :
    (s.on = false ∧ a.off = true) ∨ (s.on = true ∧ a.off = false ∧ badPlace s dev place 31 ∧ a.no dev place) ∨
    (s.on = true ∧ a.off = false ∧ ∃ (i k : Nat) (d : AD) (e : Nat × (Int → Option Sec)), dev = (i : Int) ∧ place = (k : Int) ∧ s.ds[i]? = some d ∧ a.ds[i]? = some e ∧ k < e.1 ∧ d.n = (e.1 : Int)) := by
  obtain ⟨M, h⟩ := hl
  have ho := h.on
  cases hs : s.on with
  | false => exact .inl ⟨rfl, by rw [ho, hs]; rfl⟩
  | true =>
    have hoff : a.off = false := by rw [ho, hs]; rfl
    by_cases hd : 0 ≤ dev ∧ dev < (s.ds.length : Int)
    · obtain ⟨i, rfl⟩ : ∃ i : Nat, dev = (i : Int) := ⟨dev.toNat, by omega⟩
      have hi : i < s.ds.length := by omega
      obtain ⟨d, hdd⟩ : ∃ d, s.ds[i]? = some d := ⟨_, List.getElem?_eq_getElem hi⟩
      obtain ⟨e, hee⟩ : ∃ e, a.ds[i]? = some e := ⟨_, List.getElem?_eq_getElem (by rw [h.len]; exact hi)⟩
      obtain ⟨h1, _, _⟩ := h.at_ i d e hdd hee
      by_cases hp : 0 ≤ place ∧ place < d.n
      · exact .inr (.inr ⟨rfl, hoff, i, place.toNat, d, e, rfl, by omega, hdd, hee, by omega, h1⟩)
      · refine .inr (.inl ⟨rfl, hoff, .inr ⟨hs, rfl, i, d, rfl, hdd, hp⟩, fun i' e' hk => hp ?_⟩)
        obtain ⟨k1, k2, k3, k4⟩ := hk
        have : i = i' := by omega
        subst this
        rw [hee] at k2
        injection k2 with k2
        subst k2
        omega
    · refine .inr (.inl ⟨rfl, hoff, .inl ⟨?_, .inr rfl⟩, fun i' e' hk => hd ?_⟩)
      · unfold refuseCode
        rw [hs, if_pos rfl, if_neg hd]
      · obtain ⟨k1, k2, _, _⟩ := hk
        have := (List.getElem?_eq_some_iff.1 k2).1
        rw [h.len] at this
        omega
theorem off_bad {s : AP} (hs : s.on = false) (dev place : Int) : badPlace s dev place 2 := .inl ⟨by unfold refuseCode; rw [hs]; rfl, .inl rfl⟩
theorem Gd.left {s : AP} {a : RP} {K : Nat} (h : Gd s a K) (h0 : s.fuse ≠ 0) : a.burns = true → 0 < a.left ∧ a.left ≤ 9223372036854775807 := fun hb => by
  obtain ⟨M, hm⟩ := h.lk
  have h1 := hm.burns
  rw [hb] at h1
  have h2 : 0 ≤ s.fuse := of_decide_eq_true h1.symm
  have := hm.left h2
  have := h.f2
  omega
theorem Gd.zero {s : AP} {a : RP} {K : Nat} (h : Gd s a K) (h0 : s.fuse = 0) : a.burns = true ∧ a.left = 0 := by
  obtain ⟨M, hm⟩ := h.lk
  have h1 := hm.burns
  rw [h0] at h1
  exact ⟨h1, by rw [hm.left (by omega), h0]⟩
theorem Gd.done {s : AP} {a : RP} {K : Nat} (h : Gd s a K) (hK : K ≤ 1099511627776) : 0 ≤ a.done ∧ a.done ≤ 4611686018427387904 := by
  obtain ⟨M, hm⟩ := h.lk
  rw [hm.done]
  have := h.s1
  have := h.s2
  omega
/-- what both Writes tell and make -/
theorem wr_both {s : AP} {a : RP} {K : Nat} (hg : Gd s a K) (hK : K < 1099511627775) (dev place : Int) (len : Nat) (b : Sec) : ∃ (c : Int) (s' : AP) (a' : RP), Lk s' a' ∧ a'.R.length ≤ K + 1 ∧
    (∀ (w : World) (x : Nat) (F : Nat → Prop) (A : Option Addr) (cap : Nat), PlantAt w x F s K → (len = 64 → Bs w A 64 b.1) → Calls Try.prog 11 #[.pointer (some ⟨x, 0, none⟩), .int .i64 dev, .int .i64 place, .slice A len cap] w fun e w' => e = .returned (.int .i64 c) ∧ Goes2 w x F w' s' (K + 1)) ∧
    (∀ (w : World) (y : Nat) (G Z : Nat → Prop) (A : Option Addr) (cap : Nat), RAt w y G Z a → (len = 64 → Bs w A 64 b.1 ∧ ∀ b' off s', A = some ⟨b', off, s'⟩ → b' ≠ y) → Calls Try.prog 12 #[.pointer (some ⟨y, 0, none⟩), .int .i64 dev, .int .i64 place, .slice A len cap] w fun e w' => e = .returned (.int .i64 c) ∧ RTo w y G Z a' w') := by
  have hk1 : K ≤ K + 1 := Nat.le_succ K
  have hr := hg.r
  rcases spot_cases hg.lk dev place with ⟨h1, h2⟩ | ⟨h1, h2, h3, h4⟩ | ⟨h1, h2, i, k, d, e, rfl, rfl, hd, he, hk, hn⟩
  · refine ⟨2, s, a, hg.lk, by omega, fun w x F A cap h _ => ?_, fun w y G Z A cap h _ => ?_⟩
    · exact (write_bad h dev place 2 (off_bad h1 _ _) A len cap).mono fun e w' ⟨he, hw⟩ => ⟨he, Goes2.same h hk1 hw⟩
    · refine (h.write_no (B := A) (n := len) (c := cap) (.inl h2)).mono fun e w' ⟨he, hw⟩ => ⟨?_, RTo.same h hw⟩
      rw [he, h2]
      rfl
  · refine ⟨31, s, a, hg.lk, by omega, fun w x F A cap h _ => ?_, fun w y G Z A cap h _ => ?_⟩
    · exact (write_bad h dev place 31 h3 A len cap).mono fun e w' ⟨he, hw⟩ => ⟨he, Goes2.same h hk1 hw⟩
    · refine (h.write_no (B := A) (n := len) (c := cap) (.inr h4)).mono fun e w' ⟨he, hw⟩ => ⟨?_, RTo.same h hw⟩
      rw [he, h2]
      rfl
  · have hp : 0 ≤ (k : Int) ∧ (k : Int) < d.n := by omega
    by_cases hl : len = 64
    · subst hl
      by_cases h0 : s.fuse = 0
      · obtain ⟨z1, z2⟩ := hg.zero h0
        obtain ⟨M, hm⟩ := hg.lk
        refine ⟨2, s.burn, a.cut, hm.burn, (show a.R.length ≤ K + 1 by omega), fun w x F A cap h _ => ?_, fun w y G Z A cap h _ => ?_⟩
        · exact (write_burn h i d hd h1 _ hp h0 A cap).mono fun e w' ⟨he, hw⟩ => ⟨he, hw.mono hk1⟩
        · exact h.write_end h2 he hk z1 z2
      · obtain ⟨M, hm⟩ := hg.lk
        refine ⟨0, s.put i d (k : Int) b, a.put i (k : Int) b, hm.put hd h0 _ _, ?_, fun w x F A cap h hb => ?_, fun w y G Z A cap h hb => ?_⟩
        · show (a.R ++ [_]).length ≤ K + 1
          rw [List.length_append]
          simp only [List.length_singleton]
          omega
        · exact write_ok h i d hd h1 _ hp h0 A cap b (hb rfl) hK
        · exact h.write_at h2 he hk (hg.left h0) (hg.done (by omega)) (by omega) (hb rfl).1 (hb rfl).2
    · refine ⟨32, s, a, hg.lk, by omega, fun w x F A cap h _ => ?_, fun w y G Z A cap h _ => ?_⟩
      · exact (write_len h i d hd h1 _ hp A len cap hl).mono fun e w' ⟨he, hw⟩ => ⟨he, Goes2.same h hk1 hw⟩
      · exact (h.write_len h2 he hk hl).mono fun e w' ⟨he, hw⟩ => ⟨he, RTo.same h hw⟩
theorem flush_len (a : RP) (i : Nat) : (a.flush i).R.length ≤ a.R.length := by
  unfold RP.flush
  cases a.ds[i]? with
  | none => exact Nat.le_refl _
  | some e => exact List.length_filter_le _ _
/-- both Flushes -/
theorem fl_both {s : AP} {a : RP} {K : Nat} (hg : Gd s a K) (hK : K < 1099511627775) (dev : Int) : ∃ (c : Int) (s' : AP) (a' : RP), Lk s' a' ∧ a'.R.length ≤ K + 1 ∧
    (∀ (w : World) (x : Nat) (F : Nat → Prop), PlantAt w x F s K → Calls Try.prog 13 #[.pointer (some ⟨x, 0, none⟩), .int .i64 dev] w fun e w' => e = .returned (.int .i64 c) ∧ Goes2 w x F w' s' (K + 1)) ∧
    (∀ (w : World) (y : Nat) (G Z : Nat → Prop), RAt w y G Z a → Calls Try.prog 14 #[.pointer (some ⟨y, 0, none⟩), .int .i64 dev] w fun e w' => e = .returned (.int .i64 c) ∧ RTo w y G Z a' w') := by
  have hk1 : K ≤ K + 1 := Nat.le_succ K
  have hr := hg.r
  have hlen : a.ds.length = s.ds.length := by
    obtain ⟨M, hm⟩ := hg.lk
    exact hm.len
  have hon : a.off = !s.on := by
    obtain ⟨M, hm⟩ := hg.lk
    exact hm.on
  cases h1 : s.on with
  | false =>
    have h2 : a.off = true := by rw [hon, h1]; rfl
    refine ⟨2, s, a, hg.lk, by omega, fun w x F h => ?_, fun w y G Z h => ?_⟩
    · exact (flush_bad h dev 2 (by unfold refuseCode; rw [h1]; rfl) (.inl rfl)).mono fun e w' ⟨he, hw⟩ => ⟨he, Goes2.same h hk1 hw⟩
    · refine (h.flush_no (.inl h2)).mono fun e w' ⟨he, hw⟩ => ⟨?_, RTo.same h hw⟩
      rw [he, h2]
      rfl
  | true =>
    have h2 : a.off = false := by rw [hon, h1]; rfl
    by_cases hd : 0 ≤ dev ∧ dev < (s.ds.length : Int)
    · obtain ⟨i, rfl⟩ : ∃ i : Nat, dev = (i : Int) := ⟨dev.toNat, by omega⟩
      have hi : i < s.ds.length := by omega
      obtain ⟨d, hdd⟩ : ∃ d, s.ds[i]? = some d := ⟨_, List.getElem?_eq_getElem hi⟩
      obtain ⟨e, hee⟩ : ∃ e, a.ds[i]? = some e := ⟨_, List.getElem?_eq_getElem (by rw [hlen]; exact hi)⟩
      by_cases h0 : s.fuse = 0
      · obtain ⟨z1, z2⟩ := hg.zero h0
        obtain ⟨M, hm⟩ := hg.lk
        refine ⟨2, s.burn, a.cut, hm.burn, (show a.R.length ≤ K + 1 by omega), fun w x F h => ?_, fun w y G Z h => ?_⟩
        · exact (flush_burn h i d hdd h1 h0).mono fun e w' ⟨he, hw⟩ => ⟨he, hw.mono hk1⟩
        · exact h.flush_end h2 hee z1 z2
      · obtain ⟨M, hm⟩ := hg.lk
        refine ⟨0, s.flushed i d, a.flush i, hm.flush hdd h0, Nat.le_trans (flush_len a i) (by omega), fun w x F h => ?_, fun w y G Z h => ?_⟩
        · exact flush_ok h i d hdd h1 h0 hK
        · exact h.flush_at h2 hee (hg.left h0) (hg.done (by omega)) (by omega)
    · refine ⟨31, s, a, hg.lk, by omega, fun w x F h => ?_, fun w y G Z h => ?_⟩
      · exact (flush_bad h dev 31 (by unfold refuseCode; rw [h1, if_pos rfl, if_neg hd]) (.inr rfl)).mono fun e w' ⟨he, hw⟩ => ⟨he, Goes2.same h hk1 hw⟩
      · refine (h.flush_no (.inr (by rw [hlen]; exact hd))).mono fun e w' ⟨he, hw⟩ => ⟨?_, RTo.same h hw⟩
        rw [he, h2]
        rfl
/-- whatever the slice is -/
theorem exec_strBsP {a : Act} {o : Oper} {W : World} {x : Operand} {A : Option Addr} {n c : Nat} {l : List UInt8} (ho : o.op = .convert 36 9 x) (hx : a.eval x = .slice A n c) (hb : Bs W A n l) : (execOp a.eval o).run Try.prog W = .ok (.value (strV l)) W := by
  obtain ⟨h1, h2, h3⟩ := hb
  by_cases hp : 0 < n
  · obtain ⟨b, off, rfl, hc⟩ := h3 hp
    exact exec_str ho hx h1 (fun j v hj => by
      have hjl : j < l.length := by
        have := (List.getElem?_eq_some_iff.1 hj).1
        rwa [bcs_length] at this
      rw [bcs_at l j hjl] at hj
      rw [← hj]
      exact hc j (by omega))
  · have h0 : n = 0 := by omega
    subst h0
    have hl : l = [] := List.eq_nil_of_length_eq_zero h1
    subst hl
    have h := run_convert_bytes_string (P := Try.prog) W 36 9 5 A 0 c Try.underlying36 Try.underlying5 Try.underlying9
    unfold execOp
    simp only [ho, hx, h, Sem.run_bind]
    cases A <;> rfl
/-- what a Read of the code's tells: code c, bytes l -/
def RdC (w : World) (c : Int) (l : List UInt8) (e : Ending) (w' : World) : Prop :=
  (e = .returned (.tuple #[.slice none 0 0, .int .i64 c]) ∧ l = [] ∧ w = w') ∨
  (∃ R, e = .returned (.tuple #[.slice (some ⟨R, 0, none⟩) 64 64, .int .i64 c]) ∧ w.heap.size ≤ R ∧ Blk w' R 63 (bcs l).toArray ∧ l.length = 64 ∧ Turn nowhere w w')
/-- code c, bytes l -/
def RdP (w : World) (c : Int) (l : List UInt8) (e : Ending) (w' : World) : Prop := ∃ A n cap, e = .returned (.tuple #[.slice A n cap, .int .i64 c]) ∧ Bs w' A n l ∧ Turn nowhere w w'
theorem RdC.bs {w w' : World} {c : Int} {l : List UInt8} {e : Ending} (h : RdC w c l e w') : RdP w c l e w' := by
  rcases h with ⟨h1, rfl, rfl⟩ | ⟨R, h1, h2, h3, h4, h5⟩
  · exact ⟨_, _, _, h1, ⟨rfl, by unfold maxLen; omega, fun h => by omega⟩, Turn.refl _ _⟩
  · exact ⟨_, _, _, h1, bs_blk h3 h4 (by unfold maxLen; omega), h5⟩
theorem rd_both {s : AP} {a : RP} {K : Nat} (hg : Gd s a K) (hK : K < 1099511627775) (dev place : Int) : ∃ (c : Int) (l : List UInt8),
    (∀ (w : World) (x : Nat) (F : Nat → Prop), PlantAt w x F s K → Calls Try.prog 15 #[.pointer (some ⟨x, 0, none⟩), .int .i64 dev, .int .i64 place] w (RdC w c l)) ∧
    (∀ (w : World) (y : Nat) (G Z : Nat → Prop), RAt w y G Z a → Calls Try.prog 38 #[.pointer (some ⟨y, 0, none⟩), .int .i64 dev, .int .i64 place] w (RdP w c l)) := by
  have hr := hg.r
  have nil : ∀ {w w' : World}, w' = w → Bs w' none 0 [] ∧ Turn nowhere w w' := fun {w w'} e => by
    subst e
    exact ⟨⟨rfl, by unfold maxLen; omega, fun h => by omega⟩, Turn.refl _ _⟩
  rcases spot_cases hg.lk dev place with ⟨h1, h2⟩ | ⟨h1, h2, h3, h4⟩ | ⟨h1, h2, i, k, d, e, rfl, rfl, hd, he, hk, hn⟩
  · refine ⟨2, [], fun w x F h => ?_, fun w y G Z h => ?_⟩
    · exact (read_bad h dev place 2 (off_bad h1 _ _)).mono fun e w' ⟨he, hw⟩ => .inl ⟨he, rfl, hw⟩
    · refine (h.read_no (.inl h2)).mono fun e w' ⟨he, hw⟩ => ⟨none, 0, 0, he.trans ?_, nil hw⟩
      rw [h2]
      rfl
  · refine ⟨31, [], fun w x F h => ?_, fun w y G Z h => ?_⟩
    · exact (read_bad h dev place 31 h3).mono fun e w' ⟨he, hw⟩ => .inl ⟨he, rfl, hw⟩
    · refine (h.read_no (.inr h4)).mono fun e w' ⟨he, hw⟩ => ⟨none, 0, 0, he.trans ?_, nil hw⟩
      rw [h2]
      rfl
  · have hp : 0 ≤ (k : Int) ∧ (k : Int) < d.n := by omega
    obtain ⟨M, hm⟩ := hg.lk
    have hrd := hm.read hd he (k : Int)
    refine ⟨0, (d.read (k : Int)).1, fun w x F h => ?_, fun w y G Z h => ?_⟩
    · exact (read_ok h i d hd h1 _ hp).mono fun e w' ⟨R, he, h5, h6, h7⟩ => .inr ⟨R, he, h5, h6, (d.read (k : Int)).2, h7⟩
    · refine (h.read_at h2 he hk (by omega)).mono fun e' w' ⟨g, c, he', ho, _, ht⟩ => ⟨_, _, _, he', ?_, ht⟩
      rw [hrd]
      exact (Own.bs ho).1
/-- both Lens -/
theorem len_both {s : AP} {a : RP} {K : Nat} (hg : Gd s a K) (dev : Int) : ∃ (c n : Int),
    (∀ (w : World) (x : Nat) (F : Nat → Prop), PlantAt w x F s K → Calls Try.prog 39 #[.pointer (some ⟨x, 0, none⟩), .int .i64 dev] w fun e w' => e = .returned (.tuple #[.int .i64 n, .int .i64 c]) ∧ w = w') ∧
    (∀ (w : World) (y : Nat) (G Z : Nat → Prop), RAt w y G Z a → Calls Try.prog 40 #[.pointer (some ⟨y, 0, none⟩), .int .i64 dev] w fun e w' => e = .returned (.tuple #[.int .i64 n, .int .i64 c]) ∧ w = w') := by
  obtain ⟨M, hm⟩ := hg.lk
  by_cases hd : 0 ≤ dev ∧ dev < (s.ds.length : Int)
  · obtain ⟨i, rfl⟩ : ∃ i : Nat, dev = (i : Int) := ⟨dev.toNat, by omega⟩
    have hi : i < s.ds.length := by omega
    obtain ⟨d, hdd⟩ : ∃ d, s.ds[i]? = some d := ⟨_, List.getElem?_eq_getElem hi⟩
    obtain ⟨e, hee⟩ : ∃ e, a.ds[i]? = some e := ⟨_, List.getElem?_eq_getElem (by rw [hm.len]; exact hi)⟩
    obtain ⟨h1, _, _⟩ := hm.at_ i d e hdd hee
    refine ⟨0, d.n, fun w x F h => lenP_good h i d hdd, fun w y G Z h => ?_⟩
    rw [h1]
    exact h.len_at hee
  · exact ⟨31, 0, fun w x F h => lenP_bad h dev hd, fun w y G Z h => h.len_no (by rw [hm.len]; exact hd)⟩
/-- both Fuses -/
theorem fuse_both {s : AP} {a : RP} {K : Nat} (hg : Gd s a K) (n : Int) (hn : -9223372036854775808 ≤ n ∧ n ≤ 9223372036854775807) : ∃ (s' : AP) (a' : RP), Lk s' a' ∧ a'.R.length ≤ K + 1 ∧
    (∀ (w : World) (x : Nat) (F : Nat → Prop), PlantAt w x F s K → Calls Try.prog 16 #[.pointer (some ⟨x, 0, none⟩), .int .i64 n] w fun e w' => e = .returned (.tuple #[]) ∧ Goes2 w x F w' s' (K + 1)) ∧
    (∀ (w : World) (y : Nat) (G Z : Nat → Prop), RAt w y G Z a → Calls Try.prog 17 #[.pointer (some ⟨y, 0, none⟩), .int .i64 n] w fun e w' => e = .returned (.tuple #[]) ∧ RTo w y G Z a' w') := by
  obtain ⟨M, hm⟩ := hg.lk
  have hr := hg.r
  refine ⟨_, a.fuse n, hm.fuse n, ?_, fun w x F h => (fuseP h n hn).mono fun e w' ⟨he, hw⟩ => ⟨he, hw.mono (Nat.le_succ K)⟩, fun w y G Z h => h.fuse n⟩
  unfold RP.fuse
  split
  · omega
  · show a.R.length ≤ K + 1
    omega
/-- both Boots -/
theorem boot_both {s : AP} {a : RP} {K : Nat} (hg : Gd s a K) (hK : K < 1099511627775) (zs : List Int) : ∃ (s' : AP) (a' : RP), Lk s' a' ∧ a'.R.length ≤ K + 1 ∧
    (∀ (w : World) (x : Nat) (F : Nat → Prop) (A : Option Addr) (n cap : Nat), PlantAt w x F s K → Ks w F A n zs → Calls Try.prog 18 #[.pointer (some ⟨x, 0, none⟩), .slice A n cap] w fun e w' => e = .returned (.tuple #[]) ∧ Goes2 w x F w' s' (K + 1)) ∧
    (∀ (w : World) (y : Nat) (G Z : Nat → Prop) (A : Option Addr) (n cap : Nat), RAt w y G Z a → Ks w G A n zs → Calls Try.prog 19 #[.pointer (some ⟨y, 0, none⟩), .slice A n cap] w fun e w' => e = .returned (.tuple #[]) ∧ RTo w y G Z a' w') := by
  obtain ⟨M, hm⟩ := hg.lk
  have hr := hg.r
  exact ⟨_, a.boot zs, hm.boot zs, Nat.zero_le _, fun w x F A n cap h hz => (boot_ok h A n cap zs hz (by omega)).mono fun e w' ⟨he, hw⟩ => ⟨he, hw.mono (Nat.le_succ K)⟩, fun w y G Z A n cap h hz => h.boot hz (by omega)⟩
/-- what both tell of the power and of the steps -/
theorem Gd.on {s : AP} {a : RP} {K : Nat} (h : Gd s a K) : s.on = !a.off := by
  obtain ⟨M, hm⟩ := h.lk
  rw [hm.on, Bool.not_not]
theorem Gd.steps {s : AP} {a : RP} {K : Nat} (h : Gd s a K) : s.steps = a.done := by
  obtain ⟨M, hm⟩ := h.lk
  exact hm.done.symm
end Go.Proofs.Yteedjfgandgbkaa
