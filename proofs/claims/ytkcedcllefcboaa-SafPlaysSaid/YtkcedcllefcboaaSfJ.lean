/-
  saf's calls, each in all its cases; a queue in a law. No conditions.
-/
import Derived.Test.YtkcedcllefcboaaSfI
namespace Go.Proofs.Ytkcedcllefcboaa
open Go.RowKit
set_option linter.unusedVariables false
set_option linter.unusedSimpArgs false
set_option maxRecDepth 20000
namespace Sf
def sendO (l : List Adv) (s : Bool) : Option Adv := if s then none else l.head?
def againO (l : List Adv) (s : Bool) : Option Adv := if s then l.head? else none
def sendS (l : List Adv) (s : Bool) : Bool := s || !l.isEmpty
def doneL (l : List Adv) (s : Bool) (n : List UInt8) : List Adv := if canDone l s n then l.tail else l
def doneS (l : List Adv) (s : Bool) (n : List UInt8) : Bool := if canDone l s n then false else s
theorem putE_cases (m : Nat) (l : List Adv) (n : List UInt8) : putE m l n = 161 ∨ putE m l n = 3 ∨ putE m l n = 0 := by
  unfold putE
  split
  · exact .inl rfl
  · split
    · exact .inr (.inl rfl)
    · exact .inr (.inr rfl)
theorem putL_len {m : Nat} {l : List Adv} (x : Adv) (h : l.length ≤ m) : (putL m l x).length ≤ m ∧ ((putL m l x).length = l.length + 1 ↔ putE m l x.1 = 0) ∧ ((putL m l x).length = l.length ∨ (putL m l x).length = l.length + 1) := by
  unfold putL
  split
  · next e =>
    have hl : (l ++ [x]).length = l.length + 1 := by rw [List.length_append]; rfl
    refine ⟨?_, ⟨fun _ => e, fun _ => hl⟩, .inr hl⟩
    rw [hl]
    unfold putE at e
    split at e
    · cases e
    · split at e
      · cases e
      · omega
  · next e => exact ⟨h, ⟨fun h9 => absurd h9 (by omega), fun h9 => absurd h9 e⟩, .inl rfl⟩
end Sf
/-- what Send or Again tells -/
def TellE (w : World) (o : Option Adv) (e : Ending) (w' : World) : Prop := match o with | some x => SomeE w x e w' | none => e = noneE
def RTellE (Z : Nat → Prop) (o : Option Adv) (e : Ending) (w' : World) : Prop := match o with | some x => RSomeE Z x e w' | none => e = noneE
section
variable {w w0 w' : World} {Z : Nat → Prop} {a y m : Nat} {g : Option Nat} {l : List Adv} {s : Bool}
theorem put_q (q : Que w Z a g m l s) (nm : List UInt8) (ty : Int) {FA : Option Addr} {fn fc : Nat} {fs : List Fld} (hf : Fq w FA fn fs) (hsh : shortF fs) (hnl : nm.length ≤ 281474976710656) :
    Calls Try.prog 12 #[.pointer (some ⟨a, 0, none⟩), strV nm, msgV ty FA fn fc] w fun e w' => e = .returned (.int .i64 (Sf.putE m l nm)) ∧ (∃ g', Que w' (fun k => Z k ∨ w.heap.size ≤ k) a g' m (Sf.putL m l (nm, ty, fs)) s ∧ (g' = g ∨ ∃ b, g' = some b ∧ w.heap.size ≤ b)) ∧ Turn (foot a g) w w' := by
  by_cases h1 : nm ∈ Sf.names l
  · refine (Put_twice q nm ty FA fn fc h1).mono ?_
    rintro e w' ⟨rfl, ht⟩
    rw [Sf.put_twice h1]
    refine ⟨rfl, ⟨g, ?_, .inl rfl⟩, ht.mono fun _ _ e => e.elim⟩
    rw [show Sf.putL m l (nm, ty, fs) = l from if_neg (by rw [show Sf.putE m l (nm, ty, fs).1 = 161 from Sf.put_twice h1]; decide)]
    exact (q.still ht).mono fun k _ hk => .inl hk
  · by_cases h2 : l.length = m
    · refine (Put_full q nm ty FA fn fc ⟨h1, h2⟩).mono ?_
      rintro e w' ⟨rfl, ht⟩
      rw [Sf.put_full h1 h2]
      refine ⟨rfl, ⟨g, ?_, .inl rfl⟩, ht.mono fun _ _ e => e.elim⟩
      rw [show Sf.putL m l (nm, ty, fs) = l from if_neg (by rw [show Sf.putE m l (nm, ty, fs).1 = 3 from Sf.put_full h1 h2]; decide)]
      exact (q.still ht).mono fun k _ hk => .inl hk
    · refine (Put_ok q nm ty FA fn fc hf hsh hnl ⟨h1, h2⟩).mono ?_
      rintro e w' ⟨rfl, hg, ht⟩
      rw [Sf.put_ok h1 h2]
      rw [show Sf.putL m l (nm, ty, fs) = l ++ [(nm, ty, fs)] from if_pos (Sf.put_ok h1 h2)]
      exact ⟨rfl, hg, ht⟩
theorem rput_q (q : RQue w Z y m l s) (nm : List UInt8) (ty : Int) {FA : Option Addr} {fn fc : Nat} {fs : List Fld} (hf : Fq w FA fn fs) (hnil : FA = none → fc = 0) :
    Calls Try.prog 13 #[.pointer (some ⟨y, 0, none⟩), strV nm, msgV ty FA fn fc] w fun e w' => e = .returned (.int .i64 (Sf.putE m l nm)) ∧ RQue w' (fun k => Z k ∨ w.heap.size ≤ k) y m (Sf.putL m l (nm, ty, fs)) s ∧ Turn (only y) w w' := by
  by_cases h1 : nm ∈ Sf.names l
  · refine (rPut_twice q nm ty FA fn fc h1).mono ?_
    rintro e w' ⟨rfl, ht⟩
    rw [Sf.put_twice h1]
    refine ⟨rfl, ?_, ht.mono fun _ _ e => e.elim⟩
    rw [show Sf.putL m l (nm, ty, fs) = l from if_neg (by rw [show Sf.putE m l (nm, ty, fs).1 = 161 from Sf.put_twice h1]; decide)]
    exact (q.still ht).mono fun k _ hk => .inl hk
  · by_cases h2 : l.length = m
    · refine (rPut_full q nm ty FA fn fc ⟨h1, h2⟩).mono ?_
      rintro e w' ⟨rfl, ht⟩
      rw [Sf.put_full h1 h2]
      refine ⟨rfl, ?_, ht.mono fun _ _ e => e.elim⟩
      rw [show Sf.putL m l (nm, ty, fs) = l from if_neg (by rw [show Sf.putE m l (nm, ty, fs).1 = 3 from Sf.put_full h1 h2]; decide)]
      exact (q.still ht).mono fun k _ hk => .inl hk
    · refine (rPut_ok q nm ty FA fn fc hf hnil ⟨h1, h2⟩).mono ?_
      rintro e w' ⟨rfl, hg, ht⟩
      rw [Sf.put_ok h1 h2]
      rw [show Sf.putL m l (nm, ty, fs) = l ++ [(nm, ty, fs)] from if_pos (Sf.put_ok h1 h2)]
      exact ⟨rfl, hg, ht⟩
theorem send_q (q : Que w Z a g m l s) : Calls Try.prog 16 #[.pointer (some ⟨a, 0, none⟩)] w fun e w' => TellE w (Sf.sendO l s) e w' ∧ Que w' Z a g m l (Sf.sendS l s) ∧ Turn (only a) w w' := by
  cases s with
  | true =>
    refine (Send_no q (.inl rfl)).mono ?_
    rintro e w' ⟨rfl, ht⟩
    exact ⟨rfl, q.still ht, ht.mono fun _ _ e => e.elim⟩
  | false =>
    cases l with
    | nil =>
      refine (Send_no q (.inr rfl)).mono ?_
      rintro e w' ⟨rfl, ht⟩
      exact ⟨rfl, q.still ht, ht.mono fun _ _ e => e.elim⟩
    | cons x r => exact (Send_yes q).mono fun e w' h => h
theorem rsend_q (q : RQue w Z y m l s) : Calls Try.prog 17 #[.pointer (some ⟨y, 0, none⟩)] w fun e w' => RTellE Z (Sf.sendO l s) e w' ∧ RQue w' Z y m l (Sf.sendS l s) ∧ Turn (only y) w w' := by
  cases s with
  | true =>
    refine (rSend_no q (.inl rfl)).mono ?_
    rintro e w' ⟨rfl, ht⟩
    exact ⟨rfl, q.still ht, ht.mono fun _ _ e => e.elim⟩
  | false =>
    cases l with
    | nil =>
      refine (rSend_no q (.inr rfl)).mono ?_
      rintro e w' ⟨rfl, ht⟩
      exact ⟨rfl, q.still ht, ht.mono fun _ _ e => e.elim⟩
    | cons x r => exact (rSend_yes q).mono fun e w' h => h
theorem again_q (q : Que w Z a g m l s) : Calls Try.prog 14 #[.pointer (some ⟨a, 0, none⟩)] w fun e w' => TellE w (Sf.againO l s) e w' ∧ Turn nowhere w w' := by
  cases s with
  | false => exact (Again_no q).mono fun e w' h => h
  | true =>
    cases l with
    | nil => exact absurd rfl (q.way rfl)
    | cons x r => exact (Again_yes q).mono fun e w' h => h
theorem ragain_q (q : RQue w Z y m l s) : Calls Try.prog 15 #[.pointer (some ⟨y, 0, none⟩)] w fun e w' => RTellE Z (Sf.againO l s) e w' ∧ Turn nowhere w w' := by
  cases s with
  | false => exact (rAgain_no q).mono fun e w' h => h
  | true =>
    cases l with
    | nil => exact absurd rfl (q.way rfl)
    | cons x r => exact (rAgain_yes q).mono fun e w' h => h
theorem can_yes {n : List UInt8} (h : Sf.canDone l s n = true) : s = true ∧ ∃ x r, l = x :: r ∧ x.1 = n := by
  unfold Sf.canDone at h
  cases s with
  | false => cases h
  | true =>
    cases l with
    | nil => simp at h
    | cons x r => exact ⟨rfl, x, r, rfl, by simpa using h⟩
theorem done_q (q : Que w Z a g m l s) (n : List UInt8) : Calls Try.prog 19 #[.pointer (some ⟨a, 0, none⟩), strV n] w fun e w' => e = .returned (.bool (Sf.canDone l s n)) ∧ Que w' Z a g m (Sf.doneL l s n) (Sf.doneS l s n) ∧ Turn (foot a g) w w' := by
  cases hc : Sf.canDone l s n with
  | false =>
    refine (Done_no q hc).mono ?_
    rintro e w' ⟨rfl, rfl⟩
    rw [show Sf.doneL l s n = l from if_neg (by rw [hc]; decide), show Sf.doneS l s n = s from if_neg (by rw [hc]; decide)]
    exact ⟨rfl, q, Turn.refl _ _⟩
  | true =>
    obtain ⟨rfl, x, r, rfl, rfl⟩ := can_yes hc
    refine (Done_yes q).mono ?_
    rintro e w' ⟨rfl, h1, h2⟩
    rw [show Sf.doneL (x :: r) true x.1 = r from if_pos hc, show Sf.doneS (x :: r) true x.1 = false from if_pos hc]
    exact ⟨rfl, h1, h2⟩
theorem rdone_q (q : RQue w Z y m l s) (n : List UInt8) : Calls Try.prog 20 #[.pointer (some ⟨y, 0, none⟩), strV n] w fun e w' => e = .returned (.bool (Sf.canDone l s n)) ∧ RQue w' Z y m (Sf.doneL l s n) (Sf.doneS l s n) ∧ Turn (only y) w w' := by
  cases hc : Sf.canDone l s n with
  | false =>
    refine (rDone_no q hc).mono ?_
    rintro e w' ⟨rfl, rfl⟩
    rw [show Sf.doneL l s n = l from if_neg (by rw [hc]; decide), show Sf.doneS l s n = s from if_neg (by rw [hc]; decide)]
    exact ⟨rfl, q, Turn.refl _ _⟩
  | true =>
    obtain ⟨rfl, x, r, rfl, rfl⟩ := can_yes hc
    refine (rDone_yes q).mono ?_
    rintro e w' ⟨rfl, h1, h2⟩
    rw [show Sf.doneL (x :: r) true x.1 = r from if_pos hc, show Sf.doneS (x :: r) true x.1 = false from if_pos hc]
    exact ⟨rfl, h1, h2⟩
end
/-- a queue in a law that writes none of the messages' fields -/
def Qx (w0 w : World) (a m : Nat) (l : List Adv) (s : Bool) : Prop := ∃ g, Que w (fun _ => True) a g m l s ∧ w0.heap.size ≤ a ∧ (∀ b, g = some b → w0.heap.size ≤ b) ∧ Turn nowhere w0 w
section
variable {w w0 w' : World} {a m : Nat} {l : List Adv} {s : Bool}
theorem Qx.turn_ (q : Qx w0 w a m l s) : Turn nowhere w0 w := by obtain ⟨g, _, _, _, h⟩ := q; exact h
theorem Qx.len (q : Qx w0 w a m l s) : l.length ≤ m := by obtain ⟨g, h, _⟩ := q; exact h.len
theorem Qx.max (q : Qx w0 w a m l s) : 1 ≤ m ∧ m ≤ 16 := by obtain ⟨g, h, _⟩ := q; exact h.max
theorem Qx.way (q : Qx w0 w a m l s) : s = true → l ≠ [] := by obtain ⟨g, h, _⟩ := q; exact h.way
theorem Qx.still (q : Qx w0 w a m l s) (ht : Turn nowhere w w') : Qx w0 w' a m l s := by
  obtain ⟨g, h1, h2, h3, h4⟩ := q
  exact ⟨g, h1.still ht, h2, h3, h4.trans ht fun _ _ e => e⟩
theorem foot_new {g : Option Nat} (h2 : w0.heap.size ≤ a) (h3 : ∀ b, g = some b → w0.heap.size ≤ b) (h4 : Turn nowhere w0 w) (ht : Turn (foot a g) w w') : Turn nowhere w0 w' := h4.trans ht fun k hk e => by
  rcases e with rfl | e
  · omega
  · have := h3 k e
    omega
theorem Qx.new {m : Nat} (h : 1 ≤ m ∧ m ≤ 16) (w : World) (h0 : Turn nowhere w0 w) : Calls Try.prog 7 #[.int .i64 (m : Int)] w fun e w' => ∃ a : Nat, e = .returned (.tuple #[.pointer (some ⟨a, 0, none⟩), .int .i64 0]) ∧ Qx w0 w' a m [] false := by
  refine (New_ok h w).mono ?_
  rintro e w' ⟨a, rfl, h1, h2, h3⟩
  exact ⟨a, rfl, none, h2 _, Nat.le_trans h0.size h1, fun b e => (by cases e), h0.trans h3 fun _ _ e => e⟩
theorem Qx.put (q : Qx w0 w a m l s) (nm : List UInt8) (ty : Int) {FA : Option Addr} {fn fc : Nat} {fs : List Fld} (hf : Fq w FA fn fs) (hsh : shortF fs) (hnl : nm.length ≤ 281474976710656) :
    Calls Try.prog 12 #[.pointer (some ⟨a, 0, none⟩), strV nm, msgV ty FA fn fc] w fun e w' => e = .returned (.int .i64 (Sf.putE m l nm)) ∧ Qx w0 w' a m (Sf.putL m l (nm, ty, fs)) s := by
  obtain ⟨g, h1, h2, h3, h4⟩ := q
  refine (put_q h1 nm ty hf hsh hnl).mono ?_
  rintro e w' ⟨rfl, ⟨g', h5, h6⟩, h7⟩
  refine ⟨rfl, g', h5.mono fun _ _ _ => trivial, h2, fun b hb => ?_, foot_new h2 h3 h4 h7⟩
  rcases h6 with rfl | ⟨b', e, h8⟩
  · exact h3 b hb
  · rw [hb] at e
    injection e with e
    have := h4.size
    omega
theorem Qx.send (q : Qx w0 w a m l s) : Calls Try.prog 16 #[.pointer (some ⟨a, 0, none⟩)] w fun e w' => TellE w (Sf.sendO l s) e w' ∧ Qx w0 w' a m l (Sf.sendS l s) := by
  obtain ⟨g, h1, h2, h3, h4⟩ := q
  refine (send_q h1).mono ?_
  rintro e w' ⟨h5, h6, h7⟩
  exact ⟨h5, g, h6, h2, h3, foot_new h2 h3 h4 (h7.mono fun k _ e => .inl e)⟩
theorem Qx.again (q : Qx w0 w a m l s) : Calls Try.prog 14 #[.pointer (some ⟨a, 0, none⟩)] w fun e w' => TellE w (Sf.againO l s) e w' ∧ Qx w0 w' a m l s := by
  have q2 := q
  obtain ⟨g, h1, h2, h3, h4⟩ := q
  refine (again_q h1).mono ?_
  rintro e w' ⟨h5, h6⟩
  exact ⟨h5, q2.still h6⟩
theorem Qx.done (q : Qx w0 w a m l s) (n : List UInt8) : Calls Try.prog 19 #[.pointer (some ⟨a, 0, none⟩), strV n] w fun e w' => e = .returned (.bool (Sf.canDone l s n)) ∧ Qx w0 w' a m (Sf.doneL l s n) (Sf.doneS l s n) := by
  obtain ⟨g, h1, h2, h3, h4⟩ := q
  refine (done_q h1 n).mono ?_
  rintro e w' ⟨h5, h6, h7⟩
  exact ⟨h5, g, h6, h2, h3, foot_new h2 h3 h4 h7⟩
theorem Qx.stop (q : Qx w0 w a m l s) : Calls Try.prog 21 #[.pointer (some ⟨a, 0, none⟩)] w fun e w' => e = .returned (.tuple #[]) ∧ Qx w0 w' a m l false := by
  obtain ⟨g, h1, h2, h3, h4⟩ := q
  refine (Stop_walk h1).mono ?_
  rintro e w' ⟨rfl, h6, h7⟩
  exact ⟨rfl, g, h6, h2, h3, foot_new h2 h3 h4 (h7.mono fun k _ e => .inl e)⟩
theorem Qx.lenw (q : Qx w0 w a m l s) : Calls Try.prog 25 #[.pointer (some ⟨a, 0, none⟩)] w fun e w' => e = .returned (.int .i64 (l.length : Int)) ∧ w' = w := by
  obtain ⟨g, h1, _⟩ := q
  exact Len_walk h1
theorem Qx.room (q : Qx w0 w a m l s) : Calls Try.prog 26 #[.pointer (some ⟨a, 0, none⟩)] w fun e w' => e = .returned (.int .i64 ((m : Int) - (l.length : Int))) ∧ Turn nowhere w w' := by
  obtain ⟨g, h1, _⟩ := q
  exact Room_walk h1
theorem Qx.names (q : Qx w0 w a m l s) : Calls Try.prog 27 #[.pointer (some ⟨a, 0, none⟩)] w fun e w' => ∃ A c, e = .returned (.slice A l.length c) ∧ Turn nowhere w w' := by
  obtain ⟨g, h1, _⟩ := q
  exact (Names_walk h1).mono fun e w' ⟨A, c, h1, _, h2⟩ => ⟨A, c, h1, h2⟩
theorem fq_nil (w : World) : Fq w none 0 [] := ⟨rws_nil _ _ _, by decide⟩
end
end Go.Proofs.Ytkcedcllefcboaa
