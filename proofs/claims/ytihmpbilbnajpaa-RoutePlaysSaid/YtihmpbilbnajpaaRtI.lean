/-
  Routes: what is asked of the table's own calls. No conditions.
-/
import Derived.Test.YtihmpbilbnajpaaRtH
namespace Go.Proofs.Ytihmpbilbnajpaa
open Go.RowKit
open Ix
open Rt (R)
set_option linter.unusedVariables false
set_option linter.unusedSimpArgs false
/-- what Find tells, as far as it is looked at -/
def FindQ (w : World) (l : List R) (pan : Key) (e : Ending) (w' : World) : Prop :=
  ∃ (o : Option (List Int)) (A : Option Addr) (n c : Nat), Rt.Best l pan o ∧ Turn nowhere w w' ∧ e = .returned (.tuple #[.slice A n c, .bool o.isSome]) ∧ n = (o.getD []).length ∧ Orw w' w.heap.size 3 1 (.slice A n c) ((o.getD []).map one1)
theorem FindP.q {w w' : World} {l : List R} {pan : Key} {e : Ending} (h : FindP w l pan e w') : FindQ w l pan e w' := by
  obtain ⟨o, h1, h2, h3⟩ := h
  cases o with
  | none => exact ⟨none, none, 0, 0, h1, h2, h3, rfl, Orw.nil _ _ _ _⟩
  | some t =>
    obtain ⟨A, c, h3, h4⟩ := h3
    exact ⟨some t, A, t.length, c, h1, h2, h3, rfl, h4⟩
/-- what is asked of a table in memory: At w t F m l: table t has the routes l, for m members; F its blocks -/
structure Api (At : World → Nat → (Nat → Prop) → Int → List R → Prop) : Prop where
  turn : ∀ {w w' : World} {t : Nat} {F G : Nat → Prop} {m : Int} {l : List R}, At w t F m l → Turn G w w' → (∀ b, F b → ¬ G b) → At w' t F m l
  lt : ∀ {w : World} {t b : Nat} {F : Nat → Prop} {m : Int} {l : List R}, At w t F m l → F b → b < w.heap.size
  srt : ∀ {w : World} {t : Nat} {F : Nat → Prop} {m : Int} {l : List R}, At w t F m l → Rt.Srt l ∧ l.length ≤ 32
  short : ∀ {w : World} {t : Nat} {F : Nat → Prop} {m : Int} {l : List R}, At w t F m l → ∀ x ∈ l, x.2.length ≤ 6
  new : ∀ {w : World} {A : Option Addr} {n c : Nat} {us : List RtV} {m : Int}, RtsAt w A n us → n * 40 ≤ 140737488355328 → Calls Try.prog 9 #[.slice A n c, .int .i64 m] w fun e w' =>
    (¬ (1 ≤ m ∧ m ≤ 6) ∧ e = .returned (.tuple #[.pointer none, .int .i64 130]) ∧ Turn nowhere w w') ∨
    ((1 ≤ m ∧ m ≤ 6) ∧ Rt.newE m [] (us.map RtV.plain) ≠ 0 ∧ e = .returned (.tuple #[.pointer none, .int .i64 (Rt.newE m [] (us.map RtV.plain))]) ∧ Turn nowhere w w') ∨
    ((1 ≤ m ∧ m ≤ 6) ∧ Rt.newE m [] (us.map RtV.plain) = 0 ∧ ∃ t F, e = .returned (.tuple #[.pointer (some ⟨t, 0, none⟩), .int .i64 0]) ∧ At w' t F m (Rt.newL m [] (us.map RtV.plain)) ∧ (∀ b, F b → w.heap.size ≤ b) ∧ Turn nowhere w w')
  add : ∀ {w : World} {t : Nat} {F : Nat → Prop} {m : Int} {l : List R} {r : RtV}, At w t F m l → r.ok w → Calls Try.prog 14 #[.pointer (some ⟨t, 0, none⟩), .agg r.cells.toArray] w fun e w' =>
    e = .returned (.int .i64 (Rt.addE m l r.pre r.to_)) ∧ ∃ F', At w' t F' m (Rt.addL m l r.pre r.to_) ∧ (∀ b, F' b → F b ∨ w.heap.size ≤ b) ∧ Turn F w w'
  drop : ∀ {w : World} {t : Nat} {F : Nat → Prop} {m : Int} {l : List R} {p : Key}, At w t F m l → p.length ≤ 9223372036854775807 → Calls Try.prog 16 #[.pointer (some ⟨t, 0, none⟩), strV p] w fun e w' =>
    e = .returned (.int .i64 (Rt.dropE l p)) ∧ ∃ F', At w' t F' m (Rt.dropL l p) ∧ (∀ b, F' b → F b ∨ w.heap.size ≤ b) ∧ Turn F w w'
  find : ∀ {w : World} {t : Nat} {F : Nat → Prop} {m : Int} {l : List R} {p : Key}, At w t F m l → p.length ≤ 9223372036854775807 → Calls Try.prog 18 #[.pointer (some ⟨t, 0, none⟩), strV p] w fun e w' => FindQ w l p e w'
  list : ∀ {w : World} {t : Nat} {F : Nat → Prop} {m : Int} {l : List R}, At w t F m l → Calls Try.prog 21 #[.pointer (some ⟨t, 0, none⟩)] w fun e w' =>
    ∃ A n c vs, e = .returned (.slice A n c) ∧ OwnR w' w.heap.size w.heap.size (.slice A n c) vs ∧ vs.map RtV.plain = l ∧ Turn nowhere w w'
section
variable {At : World → Nat → (Nat → Prop) → Int → List R → Prop}
theorem Api.still (H : Api At) {w w' : World} {t : Nat} {F : Nat → Prop} {m : Int} {l : List R} (h : At w t F m l) (ht : Turn nowhere w w') : At w' t F m l := H.turn h ht fun _ _ e => e
/-- what began behind w, and turns its own blocks, turns none of w's -/
theorem Turn.own {w w1 w2 : World} {F : Nat → Prop} (h : Turn nowhere w w1) (hF : ∀ b, F b → w.heap.size ≤ b) (g : Turn F w1 w2) : Turn nowhere w w2 := (h.mono fun _ _ e => e.elim).trans g fun b hb e => by
  have := hF b e
  omega
theorem best_len {l : List R} {p : Key} {o : Option (List Int)} (h : Rt.Best l p o) (hl : ∀ x ∈ l, x.2.length ≤ 6) : (o.getD []).length ≤ 6 := by
  cases o with
  | none => exact Nat.zero_le _
  | some t =>
    obtain ⟨q, h1, _⟩ := h
    exact hl _ h1
theorem orI {w : World} {B : Nat} {A : Option Addr} {n c : Nat} {zs : List Int} (h : Orw w B 3 1 (.slice A n c) (zs.map one1)) (hn : n ≤ 140737488355328) : IA w A n zs := h.rws (by
  obtain ⟨A9, c9, e, _⟩ := h.form
  injection e with _ e _
  omega) (by decide)
end
end Go.Proofs.Ytihmpbilbnajpaa
