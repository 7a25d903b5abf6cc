/-
  Texts in one file: WmPa WmFc Str WmTa. Conditions: the tables and the errors read as the program's text lays them.
-/
import Derived.Test.YtelipeoilcepbaaDoorWp30
import Derived.Test.YtelipeoilcepbaaDoorWp0
import Derived.Test.YtelipeoilcepbaaDoorProg
import Derived.Laws.IdiomStrings
import Derived.Laws.Concat
import Derived.Laws.Strings
import Derived.Laws.Strings3
namespace Go.Proofs.YtelipeoilcepbaaDoor
open Go.RowKit
open Wl (B8 Gp)
set_option linter.unusedVariables false
set_option linter.unusedSimpArgs false
set_option maxRecDepth 20000
def seg9 (g : Gp) : Nat := (g.P - 2) / 64
def end9 (g : Gp) : Nat := g.P + g.s.cost - (2 + 64 * seg9 g)
def sum9 (gs : List Gp) : Nat := (gs.map (·.s.cost)).sum
def Nb (g h : Gp) : Prop := (h.P = g.P + g.s.cost ∧ seg9 h = seg9 g) ∨ (h.P = 2 + 64 * seg9 h ∧ 64 < end9 g + h.s.cost)
structure Fit9 (v : WalV) (gs : List Gp) (L : List Wl.Rec) : Prop where
  nb : ∀ (i : Nat) (g h : Gp), gs[i]? = some g → gs[i + 1]? = some h → Nb g h
  two : ∀ g ∈ gs, 2 ≤ g.P
  last : ∀ g : Gp, gs.getLast? = some g → v.seg = seg9 g ∧ v.used = end9 g
  cost : ∀ (i : Nat) (g : Gp) (l : Wl.Rec), gs[i]? = some g → L[i]? = some l → g.s.cost = Wl.cost l
theorem sum9_snoc (l : List Gp) (g : Gp) : sum9 (l ++ [g]) = sum9 l + g.s.cost := by
  unfold sum9
  simp [List.map_append, List.sum_append]
theorem pig9 : ∀ (S : Nat) (l : List Nat), (∀ k, k < S → k ∈ l) → S ≤ l.length
  | 0, _, _ => Nat.zero_le _
  | S + 1, l, h => by
    have h1 := h S (by omega)
    have h2 := pig9 S (l.erase S) fun k hk => (List.mem_erase_of_ne (by omega)).2 (h k (by omega))
    have h3 := List.length_erase_of_mem h1
    have h4 := List.length_pos_of_mem h1
    omega
theorem run9 {gs : List Gp} {most : Nat} (hnb : ∀ (i : Nat) (g h : Gp), gs[i]? = some g → gs[i + 1]? = some h → Nb g h) (h2 : ∀ g ∈ gs, 2 ≤ g.P) (hc : ∀ g ∈ gs, g.s.cost ≤ most) :
    ∀ (n : Nat) (g : Gp), gs[n]? = some g → ∃ (b : Nat) (l : List Nat), l.length = b + 1 ∧ (∀ (i : Nat) (x : Gp), i ≤ n → gs[i]? = some x → seg9 x ∈ l) ∧ (b = 0 ∨ (65 - most) * (b - 1) + end9 g ≤ sum9 (gs.take (n + 1)))
  | 0, g, hg => ⟨0, [seg9 g], rfl, fun i x hi hx => by
      obtain rfl : i = 0 := by omega
      obtain rfl : g = x := Option.some.inj (hg.symm.trans hx)
      exact List.mem_cons_self .., .inl rfl⟩
  | n + 1, g, hg => by
    have hlt := (List.getElem?_eq_some_iff.1 hg).1
    obtain ⟨g', hg'⟩ : ∃ g', gs[n]? = some g' := ⟨gs[n]'(by omega), List.getElem?_eq_getElem _⟩
    obtain ⟨b, l, h3, h4, h5⟩ := run9 hnb h2 hc n g' hg'
    have ht : sum9 (gs.take (n + 1 + 1)) = sum9 (gs.take (n + 1)) + g.s.cost := by
      rw [List.take_add_one (i := n + 1), hg]
      exact sum9_snoc _ _
    have hp := h2 g (List.mem_of_getElem? hg)
    have hp' := h2 g' (List.mem_of_getElem? hg')
    rcases hnb n g' g hg' hg with ⟨e1, e2⟩ | ⟨e1, e2⟩
    · refine ⟨b, l, h3, fun i x hi hx => ?_, h5.imp id fun h5 => ?_⟩
      · by_cases h : i = n + 1
        · subst h
          obtain rfl : g = x := Option.some.inj (hg.symm.trans hx)
          rw [e2]
          exact h4 n g' (Nat.le_refl _) hg'
        · exact h4 i x (by omega) hx
      · rw [ht]
        have e3 : end9 g = end9 g' + g.s.cost := by
          unfold end9
          rw [e2]
          unfold seg9
          omega
        omega
    · have e3 : end9 g = g.s.cost := by unfold end9; omega
      refine ⟨b + 1, seg9 g :: l, by rw [List.length_cons, h3], fun i x hi hx => ?_, .inr ?_⟩
      · by_cases h : i = n + 1
        · subst h
          obtain rfl : g = x := Option.some.inj (hg.symm.trans hx)
          exact List.mem_cons_self ..
        · exact List.mem_cons_of_mem _ (h4 i x (by omega) hx)
      · rw [ht, e3, Nat.add_sub_cancel]
        have hm := hc g (List.mem_of_getElem? hg)
        match b, h5 with
        | 0, _ => omega
        | b + 1, h5 =>
          rcases h5 with h5 | h5
          · omega
          · rw [Nat.add_sub_cancel] at h5
            rw [Nat.mul_succ]
            omega
section
variable {D : Wl.Disk} {S f : Nat} {v : WalV} {L L' : List Wl.Rec} {gs gs' : List Gp}
theorem Lgv.fits (h : Lgv D S v L gs) (hf : Fit9 v gs L) {c most : Nat} (hc : 0 < c) (hm : ∀ g ∈ gs, g.s.cost ≤ most) (hS : 3 ≤ S) (hs : c + sum9 gs ≤ (65 - most) * (S - 2)) : v.pick c ≠ none := by
  intro e
  unfold WalV.pick at e
  split at e
  · cases e
  · rw [Option.map_eq_none_iff] at e
    unfold freeK at e
    rw [List.find?_eq_none, h.hl] at e
    have hcov : ∀ sg, sg < S → sg ≠ v.seg → ∃ g ∈ gs, seg9 g = sg := fun sg h1 h2 => by
      have h4 := e sg (List.mem_range.2 h1)
      unfold freeB at h4
      simp only [Bool.and_eq_true, decide_eq_true_eq, not_and] at h4
      rw [h.he, heldOf_at _ h1] at h4
      rcases Nat.eq_zero_or_pos (v.places.countP fun P => decide ((P - 2) / 64 = sg)) with h6 | h6
      · exact absurd h2 (h4 (by rw [h6]))
      · obtain ⟨P, hP, hq⟩ := List.countP_pos_iff.1 h6
        rw [h.pl] at hP
        obtain ⟨g, hg, rfl⟩ := List.mem_map.1 hP
        exact ⟨g, hg, of_decide_eq_true hq⟩
    cases hgl : gs.getLast? with
    | none =>
      rw [List.getLast?_eq_none_iff] at hgl
      obtain ⟨g, hg, _⟩ := hcov (if v.seg = 0 then 1 else 0) (by split <;> omega) (by split <;> omega)
      rw [hgl] at hg
      cases hg
    | some gl =>
      obtain ⟨hs1, _⟩ := hf.last gl hgl
      have hn : gs[gs.length - 1]? = some gl := by rw [← List.getLast?_eq_getElem?]; exact hgl
      obtain ⟨b, l, g1, g2, g3⟩ := run9 hf.nb hf.two hm (gs.length - 1) gl hn
      have hS2 : S ≤ l.length := pig9 S l fun sg h1 => by
        by_cases e2 : sg = v.seg
        · rw [e2, hs1]
          exact g2 _ gl (Nat.le_refl _) hn
        · obtain ⟨g, hg, e3⟩ := hcov sg h1 e2
          obtain ⟨i, hi⟩ := List.getElem?_of_mem hg
          rw [← e3]
          exact g2 i g (by have := (List.getElem?_eq_some_iff.1 hi).1; omega) hi
      rcases g3 with g3 | g3
      · omega
      · have hl := (List.getElem?_eq_some_iff.1 hn).1
        rw [List.take_of_length_le (by omega)] at g3
        have h7 : (65 - most) * (S - 2) ≤ (65 - most) * (b - 1) := Nat.mul_le_mul_left _ (by omega)
        omega
theorem good_uniq {D : Wl.Disk} (h : Wl.Good Crc.sumN D S f L gs) (h' : Wl.Good Crc.sumN D S f L' gs') : gs = gs' :=
  Wl.sort_one (h.found.symm.trans h'.found) (h.sorted.imp fun h => Nat.le_of_lt h) h'.sorted
end
end Go.Proofs.YtelipeoilcepbaaDoor
namespace Go.Proofs.YtelipeoilcepbaaDoor
open Go.RowKit
open Wl
set_option linter.unusedVariables false
set_option linter.unusedSimpArgs false
set_option maxRecDepth 20000
section
variable {D D' : Disk} {S f a slot : Nat} {L : List Rec} {gs : List Gp}
end
end Go.Proofs.YtelipeoilcepbaaDoor
namespace Go.Proofs.YtelipeoilcepbaaDoor
open Go.RowKit
set_option linter.unusedVariables false
def strV (l : List UInt8) : Value := .string ⟨l.toArray⟩
section
variable {a : Act} {o : Oper} {W : World}
theorem exec_str {x : Operand} {b off n c : Nat} {l : List UInt8} (ho : o.op = .convert 38 9 x) (hx : a.eval x = .slice (some ⟨b, off, none⟩) n c) (hl : l.length = n) (hr : W.rangeAt b off (bcs l)) : (execOp a.eval o).run Tryd.prog W = .ok (.value (strV l)) W := by
  subst hl
  have h := run_convert_bytes_back (P := Tryd.prog) W 38 9 5 ⟨b, off, none⟩ c l Tryd.underlying38 Tryd.underlying5 Tryd.underlying9 (fun j hj => by
    rw [add_nat]
    refine hr j _ ?_
    rw [bcs_at l j hj, List.getD_eq_getElem?_getD, List.getElem?_eq_getElem hj]
    rfl)
  unfold execOp
  simp only [ho, hx, h, Sem.run_bind, Sem.run_pure, Result.andThen_ok, strV]
theorem exec_strBs {x : Operand} {A : Option Addr} {n c : Nat} {l : List UInt8} (ho : o.op = .convert 38 9 x) (hx : a.eval x = .slice A n c) (hb : Bs W A n l) : (execOp a.eval o).run Tryd.prog W = .ok (.value (strV l)) W := by
  obtain ⟨h1, h2, h3⟩ := hb
  by_cases hp : 0 < n
  · obtain ⟨b, off, rfl, hc⟩ := h3 hp
    exact exec_str ho hx h1 (fun j v hj => by
      have hjl : j < l.length := by
        have := (List.getElem?_eq_some_iff.1 hj).1
        rwa [bcs_length] at this
      rw [bcs_at l j hjl] at hj
      rw [← hj]
      exact hc j (by omega))
  · have h0 : n = 0 := by omega
    subst h0
    have hl : l = [] := List.eq_nil_of_length_eq_zero h1
    subst hl
    have h := run_convert_bytes_string (P := Tryd.prog) W 38 9 5 A 0 c Tryd.underlying38 Tryd.underlying5 Tryd.underlying9
    unfold execOp
    simp only [ho, hx, h, Sem.run_bind]
    cases A <;> rfl
theorem exec_seql {x y : Operand} {l m : List UInt8} {t u : TypeId} (ho : o.op = .binOp .eql t x y u) (hx : a.eval x = strV l) (hy : a.eval y = strV m) : (execOp a.eval o).run Tryd.prog W = .ok (.value (.bool (l == m))) W := by
  unfold execOp
  simp [ho, hx, hy, strV, eqGuard, binOp_string_eql]
theorem exec_sneq {x y : Operand} {l m : List UInt8} {t u : TypeId} (ho : o.op = .binOp .neq t x y u) (hx : a.eval x = strV l) (hy : a.eval y = strV m) : (execOp a.eval o).run Tryd.prog W = .ok (.value (.bool (!(l == m)))) W := by
  unfold execOp
  simp [ho, hx, hy, strV, eqGuard, binOp_string_neq]
end
end Go.Proofs.YtelipeoilcepbaaDoor
namespace Go.Proofs.YtelipeoilcepbaaDoor
open Go.RowKit
open Wl (B8 Gp)
set_option linter.unusedVariables false
set_option linter.unusedSimpArgs false
set_option maxRecDepth 20000
theorem Firsts.turn {F : Nat → Prop} {w w' : World} {g b0 n i : Nat} {ls : List B8} (h : Firsts w g b0 n i ls) (ht : Turn F w w') (hg : ¬ F g) (hb : ¬ F b0) : Firsts w' g b0 n i ls := by
  obtain ⟨cs, h1, h2, h3, h4⟩ := h
  exact ⟨cs, h1.turn ht hg, h2, h3, fun j l hj => by
    obtain ⟨a, m, q1, q2, q3⟩ := h4 j l hj
    refine ⟨a, m, q1, q2.turn ht fun b' o' _ e hb' => ?_, q3⟩
    injection e with e
    injection e with e1 e2
    exact hb (by rw [e1]; exact hb')⟩
theorem apart2 {F F' G G' : Nat → Prop} {n g : Nat} (h : ¬ (F g ∨ G g)) (hg : g < n) (hF : ∀ b, F' b → F b ∨ n ≤ b) (hG : ∀ b, G' b → G b ∨ n ≤ b) : ¬ (F' g ∨ G' g) := by
  rintro (e | e)
  · rcases hF g e with e | e
    · exact h (.inl e)
    · omega
  · rcases hG g e with e | e
    · exact h (.inr e)
    · omega
theorem Firsts.lt {w : World} {g b0 : Nat} {x y : UInt8} (h : Firsts w g b0 2 2 [[x], [y]]) : g < w.heap.size ∧ b0 < w.heap.size := by
  obtain ⟨cs, h1, h2, h3, h4⟩ := h
  refine ⟨h1.lt, ?_⟩
  obtain ⟨a, m, _, q2, _⟩ := h4 0 [x] rfl
  obtain rfl : 1 = m := q2.1
  obtain ⟨b, o, e, hc⟩ := q2.2.2 (by decide)
  injection e with e
  injection e with e1 e2
  subst e1
  exact World.block_lt_of_cell? _ _ (hc 0 (by decide))
theorem Firsts.two {w : World} {g b0 : Nat} {x y : UInt8} (h : Firsts w g b0 2 2 [[x], [y]]) : ∃ a c, w.cell? ⟨g, 0, none⟩ = some (.slice (some ⟨b0, a, none⟩) 1 1) ∧ Bs w (some ⟨b0, a, none⟩) 1 [x] ∧ w.cell? ⟨g, 1, none⟩ = some (.slice (some ⟨b0, c, none⟩) 1 1) ∧ Bs w (some ⟨b0, c, none⟩) 1 [y] := by
  obtain ⟨cs, h1, h2, h3, h4⟩ := h
  obtain ⟨a, m, p1, p2, _⟩ := h4 0 [x] rfl
  obtain ⟨c, k, q1, q2, _⟩ := h4 1 [y] rfl
  obtain rfl : 1 = m := p2.1
  obtain rfl : 1 = k := q2.1
  exact ⟨a, c, by rw [h1.cell]; exact p1, p2, by rw [h1.cell]; exact q1, q2⟩
section
variable {w w' : World} {x p i : Nat} {F : Nat → Prop} {s : AP} {K : Nat} {d : AD} {S : Nat} {v : WalV} {vP vH : Value} {L : List Wl.Rec} {gs : List Gp}
theorem Lg.fuse (h : Lg w x p i F s K d S v vP vH L gs) (m : Int) (hm : -9223372036854775808 ≤ m ∧ m ≤ 9223372036854775807) :
    Calls Tryd.prog 21 #[.pointer (some ⟨p, 0, none⟩), .int .i64 m] w fun e w' => e = .returned (.tuple #[]) ∧ Turn F w w' ∧ ∃ F', (∀ b, F' b → F b ∨ w.heap.size ≤ b) ∧ Lg w' x p i F' { s with fuse := m } K d S v vP vH L gs := by
  refine (fuseP h.pt m hm).mono ?_
  rintro e w' ⟨rfl, F', hp, ht, hF⟩
  rw [h.on, if_pos rfl, ← h.on] at hp
  have htl := tab_lt h.tab
  refine ⟨rfl, ht, F', hF, h.wb.turn ht fun b hb => (h.ap b hb).1, hp, tab_turn h.tab ht h.tf, ?_, h.ds, h.on, h.dry, fun b hb => ⟨fun e => ?_, (h.ap b hb).2⟩, h.lv, h.rm⟩
  · intro e
    rcases hF _ e with e | e
    · exact h.tf e
    · omega
  · rcases hF _ e with e | e
    · exact (h.ap b hb).1 e
    · have := h.glt hb
      omega
end
end Go.Proofs.YtelipeoilcepbaaDoor
