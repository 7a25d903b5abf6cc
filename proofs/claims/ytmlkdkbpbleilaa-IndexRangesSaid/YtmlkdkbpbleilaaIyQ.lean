/-
  Index: what is dropped of a range, in plain data; a row beside an index. No conditions.
-/
import Derived.Test.YtmlkdkbpbleilaaIyO
namespace Go.Proofs.Ytmlkdkbpbleilaa
open Go.RowKit
open Ix
set_option linter.unusedVariables false
/-- between the ends -/
def inR (fr to : Key) (p : Pr) : Bool := !klt p.1 fr && (to == [] || klt p.1 to)
theorem rngOf_rng {fr to : Key} {l : List Pr} (hs : Srt l) : rngOf fr to l = l.filter (inR fr to) := (rng_while hs).symm
theorem klt_nil (k : Key) : klt k [] = false := by cases k <;> rfl
theorem inR_all (p : Pr) : inR [] [] p = true := by
  unfold inR
  rw [klt_nil]
  rfl
theorem rngOf_all {l : List Pr} (hs : Srt l) : rngOf [] [] l = l := by
  rw [rngOf_rng hs, List.filter_eq_self]
  exact fun p _ => inR_all p
theorem cut_neg (r : List Pr) : cut (-1) r = r := if_pos (by decide)
/-- all but those with keys of ss -/
def dropL (ss : List Pr) (l : List Pr) : List Pr := l.filter fun p => ss.all fun q => decide (p.1 ≠ q.1)
theorem dropL_nil (l : List Pr) : dropL [] l = l := by
  unfold dropL
  rw [List.filter_eq_self]
  exact fun _ _ => rfl
theorem dropL_add (ss l : List Pr) (q : Pr) : ldrop q.1 (dropL ss l) = dropL (ss ++ [q]) l := by
  unfold ldrop dropL
  rw [List.filter_filter]
  congr 1
  funext p
  rw [Bool.eq_iff_iff]
  simp [and_comm]
theorem dropL_srt {ss l : List Pr} (h : Srt l) : Srt (dropL ss l) := List.Pairwise.sublist List.filter_sublist h
theorem lget_mem {q : Pr} : ∀ {l : List Pr}, Srt l → q ∈ l → lget q.1 l = some q.2
  | p :: l, hs, hq => by
    obtain ⟨h1, h2⟩ := List.pairwise_cons.1 hs
    show (if p.1 = q.1 then some p.2 else lget q.1 l) = _
    rcases List.mem_cons.1 hq with rfl | hq
    · rw [if_pos rfl]
    · rw [if_neg (fun e => klt_ne (h1 q hq) e)]
      exact lget_mem h2 hq
theorem srt_lt {l : List Pr} {i j : Nat} {p q : Pr} (hs : Srt l) (hi : l[i]? = some p) (hj : l[j]? = some q) (h : i < j) : p.1 ≠ q.1 := by
  obtain ⟨h1, rfl⟩ := List.getElem?_eq_some_iff.1 hi
  obtain ⟨h2, rfl⟩ := List.getElem?_eq_some_iff.1 hj
  exact klt_ne (List.pairwise_iff_getElem.1 hs i j h1 h2 h)
theorem drop_next {P : Pr → Bool} {l : List Pr} (hs : Srt l) {i : Nat} {q : Pr} (hq : (l.filter P)[i]? = some q) : lget q.1 (dropL ((l.filter P).take i) l) = some q.2 := by
  have hsf : Srt (l.filter P) := List.Pairwise.sublist List.filter_sublist hs
  refine lget_mem (dropL_srt hs) (List.mem_filter.2 ⟨List.filter_sublist.subset (List.mem_of_getElem? hq), ?_⟩)
  rw [List.all_eq_true]
  intro r hr
  obtain ⟨j, hj⟩ := List.mem_iff_getElem?.1 hr
  rw [List.getElem?_take] at hj
  split at hj
  · rename_i hlt
    exact decide_eq_true fun e => srt_lt hsf hj hq hlt e.symm
  · cases hj
theorem drop_take {ss l : List Pr} {i : Nat} {q : Pr} (hq : ss[i]? = some q) : ldrop q.1 (dropL (ss.take i) l) = dropL (ss.take (i + 1)) l := by
  rw [dropL_add, List.take_add_one, hq]
  rfl
theorem drop_rest {fr to : Key} {l : List Pr} : dropL (l.filter (inR fr to)) l = l.filter fun p => !inR fr to p := by
  unfold dropL
  refine List.filter_congr fun p hp => ?_
  rw [Bool.eq_iff_iff, List.all_eq_true, Bool.not_eq_true']
  constructor
  · intro h
    cases e : inR fr to p with
    | false => rfl
    | true => exact absurd rfl (of_decide_eq_true (h p (List.mem_filter.2 ⟨hp, e⟩)))
  · intro h q hq
    refine decide_eq_true fun e => ?_
    have h2 := (List.mem_filter.1 hq).2
    unfold inR at h h2
    rw [← e, h] at h2
    cases h2
theorem rest_rng {fr to : Key} {l : List Pr} : (l.filter fun p => !inR fr to p).filter (inR fr to) = [] := by
  rw [List.filter_eq_nil_iff]
  intro p hp h
  have := (List.mem_filter.1 hp).2
  rw [h] at this
  cases this
theorem rest_len (P : Pr → Bool) : ∀ (l : List Pr), (l.filter fun p => !P p).length + (l.filter P).length = l.length
  | [] => rfl
  | p :: l => by
    have := rest_len P l
    cases h : P p
    · rw [List.filter_cons_of_pos (by simp [h]), List.filter_cons_of_neg (by simp [h]), List.length_cons, List.length_cons]
      omega
    · rw [List.filter_cons_of_neg (by simp [h]), List.filter_cons_of_pos (by simp [h]), List.length_cons, List.length_cons]
      omega
/-- a row of pairs beside an index -/
def RowO (w : World) (x : Nat) (H : Hp) (v : Value) (l : List Pr) : Prop := Orw w 0 54 2 v (l.map encP) ∧ ∀ b, v.ownBlock = some b → ¬ own x H b
theorem RowO.still {w w' : World} {x : Nat} {H : Hp} {v : Value} {l : List Pr} (h : RowO w x H v l) (ht : Turn nowhere w w') : RowO w' x H v l := ⟨h.1.still ht, h.2⟩
theorem RowO.to {w w' : World} {x : Nat} {H H' : Hp} {v : Value} {l : List Pr} (h : RowO w x H v l) (ht : Turn (own x H) w w') (hf : ∀ b, own x H' b → own x H b ∨ w.heap.size ≤ b) : RowO w' x H' v l :=
  ⟨h.1.turn ht h.2, fun b hb e => (hf b e).elim (h.2 b hb) fun e => by have := (h.1.lt hb).2; omega⟩
theorem RowO.new {w w' : World} {x : Nat} {H : Hp} {M N : Nat} {m l : List Pr} {v : Value} (hi : Idx w x H M m N) (h : Orw w' w.heap.size 54 2 v (l.map encP)) : RowO w' x H v l :=
  ⟨h.less (Nat.zero_le _), fun b hb e => by have := (h.lt hb).1; have := hi.lt e; omega⟩
end Go.Proofs.Ytmlkdkbpbleilaa
