/-
  Index: what a loop's body may write while a range goes on. No conditions.
-/
import Derived.Test.YtmlkdkbpbleilaaIyH
namespace Go.Proofs.Ytmlkdkbpbleilaa
open Go.RowKit Go.Shelf
open Ix
set_option linter.unusedVariables false
/-- a block that is no cells -/
def nc (n0 : Nat) (A : World) (k : Nat) : Prop := n0 ≤ k ∧ ∃ o : Obj, A.heap[k]? = some o ∧ o.isCells = false
/-- all lies as it lay but the blocks of G, and what is no cells; G takes no others on -/
def KpG (G : World → Nat → Prop) (n0 : Nat) (A B : World) : Prop := Turn (fun k => G A k ∨ nc n0 A k) A B ∧ ∀ k, G B k → k < A.heap.size → G A k ∨ nc n0 A k
theorem KpG.back {G : World → Nat → Prop} {n0 : Nat} {A B : World} (h : KpG G n0 A B) {k : Nat} (hk : k < A.heap.size) (hn : nc n0 B k) : G A k ∨ nc n0 A k := by
  by_cases hG : G A k ∨ nc n0 A k
  · exact hG
  · have e := h.1.block k hk hG
    obtain ⟨hl, o, ho, hc⟩ := hn
    exact .inr ⟨hl, o, by rw [← e]; exact ho, hc⟩
theorem KpG.trans {G : World → Nat → Prop} {n0 : Nat} {A B C : World} (h : KpG G n0 A B) (g : KpG G n0 B C) : KpG G n0 A C :=
  ⟨h.1.trans g.1 (fun k hk hb => hb.elim (fun hG => h.2 k hG hk) (fun hn => h.back hk hn)),
   fun k hG hk => (g.2 k hG (Nat.lt_of_lt_of_le hk h.1.size)).elim (fun x => h.2 k x hk) (fun x => h.back hk x)⟩
/-- G hangs on what lies below n0 alone -/
def GOK (G : World → Nat → Prop) (n0 : Nat) : Prop := ∀ A B k, Below n0 A B → n0 ≤ A.heap.size → G B k → G A k
theorem KpG.still {G : World → Nat → Prop} {n0 : Nat} (hG : GOK G n0) {A B : World} (hn : n0 ≤ A.heap.size) (h : Turn nowhere A B) : KpG G n0 A B :=
  ⟨h.mono fun _ _ e => e.elim, fun k hk _ => .inl (hG A B k (h.below hn fun _ _ e => e) hn hk)⟩
theorem KpG.put {G : World → Nat → Prop} {n0 : Nat} (hG : GOK G n0) (W : World) (l : Nat) (o o' : Obj) (hn : n0 ≤ l) (hl : W.heap[l]? = some o) (hc : o.isCells = false) : KpG G n0 W (W.putObj l o') := by
  have hlt : l < W.heap.size := (Array.getElem?_eq_some_iff.1 hl).1
  have ht : Turn (only l) W (W.putObj l o') := (Turn.refl _ W).grown (grownBy_putObj' W l o') fun g e _ => by cases e; rfl
  refine ⟨ht.mono fun k _ e => .inr ⟨by rw [show k = l from e]; exact hn, o, by rw [show k = l from e]; exact hl, hc⟩, fun k hk _ => .inl (hG W _ k (ht.below (Nat.le_trans hn (Nat.le_of_lt hlt)) fun k hk e => ?_) (Nat.le_trans hn (Nat.le_of_lt hlt)) hk)⟩
  have : k = l := e
  omega
theorem Blk.not_nc {n0 : Nat} {w : World} {g : Nat} {t : TypeId} {cs : Array Value} (h : Blk w g t cs) : ¬ nc n0 w g := by
  rintro ⟨_, o, ho, hc⟩
  have h : w.heap[g]? = some (.cells cs t (0, 0)) := h
  rw [h] at ho
  cases ho
  cases hc
theorem Blk.kp {G : World → Nat → Prop} {n0 : Nat} {A B : World} {g : Nat} {t : TypeId} {cs : Array Value} (h : Blk A g t cs) (hk : KpG G n0 A B) (hg : ¬ G A g) : Blk B g t cs :=
  h.turn hk.1 fun e => e.elim hg h.not_nc
theorem In.foot_cells {w : World} {H : Hp} (h : In w H) {b : Nat} (hb : foot H b) : ∃ t cs, Blk w b t cs := by
  obtain ⟨p, nd, hp, e | e | e⟩ := hb
  · subst e
    exact ⟨_, _, (h.at_ hp).blk⟩
  · exact ⟨_, (h.at_ hp).prs.own_blk e⟩
  · exact ⟨_, (h.at_ hp).kds.own_blk e⟩
theorem In.kp {G : World → Nat → Prop} {n0 : Nat} {A B : World} {H : Hp} (h : In A H) (hk : KpG G n0 A B) (hg : ∀ b, foot H b → ¬ G A b) : In B H :=
  h.turn hk.1 fun b hb hf => by
    obtain ⟨t, cs, hc⟩ := h.foot_cells hf
    exact hb.elim (hg b hf) hc.not_nc
theorem YieldAt.wide {m m' : Nat} {P : Program} {l : Nat} {args : Array Value} {W : World} {R R' : Ending → World → Prop} (h : YieldAt Fence.wide m P l args W R) (hr : ∀ e w', R e w' → R' e w') : YieldAt Fence.wide m' P l args W R' := by
  obtain ⟨fn, tmps, assign, body, hy, hR⟩ := h
  exact ⟨fn, tmps, assign, body, hy, (RoundIn.anyDepthW hR).mono hr⟩
theorem jt_of {J : List Pr → World → Prop} {n0 : Nat} (h : AbidesFrom n0 J) : JT J := fun l W W' hj ht =>
  h l W W' none hj ⟨ht.os, ht.tape, ht.output, ht.size, fun k hk _ => ht.block k hk fun e => e⟩ fun r e => by cases e
/-- what a range tells -/
def rngOf (fr to : Key) (l : List Pr) : List Pr := (fdrop fr l).takeWhile fun p => !stopAt to p
theorem take_ok {to : Key} : ∀ {a : List Pr}, Ok to a → (a.takeWhile fun p => !stopAt to p) = a
  | [], _ => rfl
  | p :: a, h => by
    rw [List.takeWhile_cons_of_pos (by rw [h p (List.mem_cons_self ..)]; rfl), take_ok fun q hq => h q (List.mem_cons_of_mem _ hq)]
theorem take_ok_app {to : Key} : ∀ {a b : List Pr}, Ok to a → ((a ++ b).takeWhile fun p => !stopAt to p) = a ++ b.takeWhile fun p => !stopAt to p
  | [], _, _ => rfl
  | p :: a, b, h => by
    show ((p :: (a ++ b)).takeWhile fun p => !stopAt to p) = _
    rw [List.takeWhile_cons_of_pos (by rw [h p (List.mem_cons_self ..)]; rfl), take_ok_app fun q hq => h q (List.mem_cons_of_mem _ hq)]
    rfl
theorem room_rng {fr to : Key} {l : List Pr} : Room to (rngOf fr to l).length [] (fdrop fr l) := fun a p b e g => by
  have : rngOf fr to l = (a ++ [p]) ++ b.takeWhile fun p => !stopAt to p := by
    unfold rngOf
    rw [e, show a ++ p :: b = (a ++ [p]) ++ b from by simp, take_ok_app g]
  rw [this]
  simp
/-- how it ends -/
theorem wend_rng {fr to : Key} {J Jx : List Pr → World → Prop} {l : List Pr} {e : Ending} {W : World} (h : WEnd to J Jx [] (fdrop fr l) e W) :
    (∃ v, e = .returned v) ∧ ((∃ ys, ys = rngOf fr to l ∧ J ys W) ∨ ∃ pre, pre <+: rngOf fr to l ∧ Jx pre W) := by
  rcases h with ⟨rfl, h1, h2⟩ | ⟨rfl, ⟨a, p, b, h0, h1, h2, h3⟩ | ⟨a, b, h0, h1, h2⟩⟩
  · exact ⟨⟨_, rfl⟩, .inl ⟨_, (take_ok h1).symm, h2⟩⟩
  · refine ⟨⟨_, rfl⟩, .inl ⟨a, ?_, h3⟩⟩
    unfold rngOf
    rw [h0, take_ok_app h1, List.takeWhile_cons_of_neg (by rw [h2]; simp), List.append_nil]
  · refine ⟨⟨_, rfl⟩, .inr ⟨a, ?_, h2⟩⟩
    unfold rngOf
    rw [h0, take_ok_app h1]
    exact List.prefix_append ..
end Go.Proofs.Ytmlkdkbpbleilaa
