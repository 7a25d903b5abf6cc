/-
  Texts in one file: WmS Str WmTa. Conditions: the tables and the errors read as the program's text lays them.
-/
import Derived.Test.YtbfeejkdlhdioaaDoorJC30
import Derived.Test.YtbfeejkdlhdioaaDoorJC0
import Derived.Test.YtbfeejkdlhdioaaDoorProg
import Derived.Laws.IdiomStrings
import Derived.Laws.Concat
import Derived.Laws.Strings
import Derived.Laws.Strings3
namespace Go.Proofs.YtbfeejkdlhdioaaDoor
open Go.RowKit
open Wl (B8 Gp live beg lastS lastU chain)
set_option linter.unusedVariables false
set_option linter.unusedSimpArgs false
set_option maxRecDepth 20000
theorem chain_at {D : Wl.Disk} {E : Nat} : ∀ {k P : Nat} {nx : Option Nat} {g : Gp}, g ∈ chain D E k P nx → Wl.grp D E g.P = some (g.s, g.t)
  | 0, P, nx, g, h => by simp [chain] at h
  | k + 1, P, nx, g, h => by
    cases hg : Wl.grp D E P with
    | none => rw [Wl.chain_none hg] at h; cases h
    | some y =>
      obtain ⟨s, t⟩ := y
      cases hn : Wl.nxOk nx s.no with
      | false => rw [Wl.chain_stop hg hn] at h; cases h
      | true =>
        rw [Wl.chain_some hg hn] at h
        rcases List.mem_cons.1 h with rfl | h
        · exact hg
        · exact chain_at h
theorem filter_two {α : Type} {A B C : α → Bool} : ∀ {r : List α}, (∀ a ∈ r, A a = true → B a = true ∨ C a = true) → (r.filter A).length ≤ (r.filter B).length + (r.filter C).length
  | [], _ => Nat.zero_le _
  | a :: r, h => by
    have ih := filter_two (r := r) fun b hb => h b (List.mem_cons_of_mem _ hb)
    rw [List.filter_cons, List.filter_cons, List.filter_cons]
    by_cases hA : A a = true
    · rw [if_pos hA]
      rcases h a (List.mem_cons_self ..) hA with e | e
      · rw [if_pos e]
        split <;> first | omega | (simp only [List.length_cons]; omega)
      · rw [if_pos e]
        split <;> first | omega | (simp only [List.length_cons]; omega)
    · rw [if_neg hA]
      split <;> split <;> first | omega | (simp only [List.length_cons]; omega)
theorem countP_two (ps : List Nat) : ∀ S : Nat, ((List.range S).filter fun sg => decide (0 < ps.countP fun P => decide ((P - 2) / 64 = sg))).length ≤ ps.length := by
  induction ps with
  | nil =>
    intro S
    rw [List.filter_eq_nil_iff.2 fun a _ => by rw [List.countP_nil]; decide]
    exact Nat.le_refl _
  | cons P ps ih =>
    intro S
    have h1 := ih S
    have h2 : ((List.range S).filter fun sg => decide (0 < (P :: ps).countP fun P => decide ((P - 2) / 64 = sg))).length ≤ ((List.range S).filter fun sg => decide (0 < ps.countP fun P => decide ((P - 2) / 64 = sg))).length + ((List.range S).filter fun sg => decide ((P - 2) / 64 = sg)).length := by
      refine filter_two fun a _ ha => ?_
      simp only [decide_eq_true_eq] at ha ⊢
      rw [List.countP_cons] at ha
      by_cases e : (P - 2) / 64 = a
      · exact .inr e
      · rw [if_neg (by simpa using e)] at ha
        exact .inl (by omega)
    have h3 : ((List.range S).filter fun sg => decide ((P - 2) / 64 = sg)).length ≤ 1 := by
      clear ih h1 h2
      induction S with
      | zero => simp
      | succ S ih =>
        rw [List.range_succ, List.filter_append, List.length_append]
        by_cases e : (P - 2) / 64 = S
        · have h4 : (List.range S).filter (fun sg => decide ((P - 2) / 64 = sg)) = [] := by
            rw [List.filter_eq_nil_iff]
            intro x hx
            have := List.mem_range.1 hx
            simp only [decide_eq_true_eq]
            omega
          rw [h4]
          simp [e]
        · simp [e]
          simpa using ih
    rw [List.length_cons]
    omega
section
variable {D : Wl.Disk} {S : Nat} {v : WalV} {L : List Wl.Rec} {gs : List Gp}
/-- while there are fewer groups than segments, but two, there is room -/
theorem Lgv.room (h : Lgv D S v L gs) (hL : L.length + 1 < S) (c : Nat) : v.pick c ≠ none := by
  unfold WalV.pick
  split
  · intro e
    cases e
  · intro e
    rw [Option.map_eq_none_iff] at e
    unfold freeK at e
    rw [List.find?_eq_none, h.hl] at e
    have h1 := countP_two v.places S
    have h2 : (List.range S).length ≤ ((List.range S).filter fun sg => decide (0 < v.places.countP fun P => decide ((P - 2) / 64 = sg))).length + ((List.range S).filter fun sg => decide (v.seg = sg)).length := by
      have h3 : ∀ sg ∈ List.range S, 0 < (v.places.countP fun P => decide ((P - 2) / 64 = sg)) ∨ v.seg = sg := fun sg hsg => by
        have h4 := e sg hsg
        unfold freeB at h4
        simp only [Bool.and_eq_true, decide_eq_true_eq, not_and] at h4
        have h5 := List.mem_range.1 hsg
        rw [h.he, heldOf_at _ h5] at h4
        rcases Nat.eq_zero_or_pos (v.places.countP fun P => decide ((P - 2) / 64 = sg)) with h6 | h6
        · have h7 := h4 (by rw [h6])
          exact .inr (by omega)
        · exact .inl h6
      revert h3
      generalize List.range S = r
      intro h3
      induction r with
      | nil => simp
      | cons a r ih =>
        have h5 := ih fun sg hsg => h3 sg (List.mem_cons_of_mem _ hsg)
        have h6 := h3 a (List.mem_cons_self ..)
        rw [List.filter_cons, List.filter_cons, List.length_cons]
        rcases h6 with h6 | h6
        · rw [if_pos (decide_eq_true h6)]
          split <;> first | omega | (simp only [List.length_cons]; omega)
        · rw [if_pos (decide_eq_true h6)]
          split <;> first | omega | (simp only [List.length_cons]; omega)
    have h3 : ((List.range S).filter fun sg => decide (v.seg = sg)).length ≤ 1 := by
      have := countP_two [v.seg * 64 + 2] S
      have e1 : ((List.range S).filter fun sg => decide (v.seg = sg)) = ((List.range S).filter fun sg => decide (0 < [v.seg * 64 + 2].countP fun P => decide ((P - 2) / 64 = sg))) := by
        refine List.filter_congr fun sg _ => ?_
        simp only [List.countP_cons, List.countP_nil]
        by_cases e2 : v.seg = sg
        · have : (v.seg * 64 + 2 - 2) / 64 = sg := by omega
          simp [e2, this]
        · have : ¬ (v.seg * 64 + 2 - 2) / 64 = sg := by omega
          simp [e2, this]
      rw [e1]
      exact this
    rw [List.length_range] at h2
    rw [h.pn] at h1
    omega
end
section
variable {w w' : World} {x p i : Nat} {F : Nat → Prop} {s : AP} {K : Nat} {d : AD} {S : Nat} {v : WalV} {vP vH : Value} {L : List Wl.Rec} {gs : List Gp}
theorem Lg.readV (h : Lg w x p i F s K d S v vP vH L gs) {k P : Nat} {l : Wl.Rec} (hk : v.places[k]? = some P) (hl : L[k]? = some l) : readV (dkD d) (2 + 64 * ((P - 2) / 64 + 1)) P (v.first + k) = some l := by
  rw [h.lv.pl, List.getElem?_map] at hk
  obtain ⟨g, hg, rfl⟩ := Option.map_eq_some_iff.1 hk
  have hgd := h.lv.on.good
  obtain ⟨sg, h1, h2, h3, h4⟩ := hgd.seg g (List.mem_of_getElem? hg)
  have hu := hgd.unp k g l hg hl
  have hno := hgd.no k g hg
  have hlv := hgd.liv sg h1
  have hm : g ∈ live (dkD d) (beg sg) v.first := by
    rw [hlv]
    exact List.mem_filter.2 ⟨List.mem_of_getElem? hg, by simp only [decide_eq_true_eq]; omega⟩
  have hc := chain_at (List.mem_filter.1 hm).1
  have hs : (g.P - 2) / 64 = sg := Wl.segOf_in h2 (by omega)
  unfold Go.Proofs.YtbfeejkdlhdioaaDoor.readV
  rw [hs, show 2 + 64 * (sg + 1) = beg sg + 64 from by unfold Wl.beg; omega, hc]
  show (match Wl.unpack Crc.sumN g.s g.t with | none => none | some l => if g.s.no = v.first + k then some l else none) = some l
  rw [hu]
  exact if_pos hno
/-- what Read tells of an open log -/
theorem Lg.read (h : Lg w x p i F s K d S v vP vH L gs) (hn : v.first + L.length < 4294967296) (no : Int) (hno : -9223372036854775808 ≤ no ∧ no ≤ 9223372036854775807) :
    Calls Tryd.prog 30 #[.pointer (some ⟨x, 0, none⟩), .int .i64 no] w fun r w' => Turn nowhere w w' ∧
      ((¬ ((v.first : Int) ≤ no ∧ no < ((v.first + L.length : Nat) : Int)) ∧ r = .returned (.tuple #[.slice none 0 0, .int .i64 1])) ∨
       ∃ (k : Nat) (l : Wl.Rec) (g : Nat), no = ((v.first + k : Nat) : Int) ∧ L[k]? = some l ∧ r = .returned (.tuple #[.slice (some ⟨g, 0, none⟩) l.length l.length, .int .i64 0]) ∧ Ls w' (some ⟨g, 0, none⟩) l.length l ∧ w.heap.size ≤ g ∧ ∃ b0, w.heap.size ≤ b0 ∧ Firsts w' g b0 l.length l.length l) := by
  have hpn := h.lv.pn
  have hrm := h.rm
  refine (WalRead_walk h.wb h.pt h.tab d h.ds (by omega) (fun k P hk => by
    have h1 := h.places_ok k P hk
    rw [h.lv.hl] at h1
    exact ⟨h1.1, by have := h1.2.2; omega⟩) no hno).mono ?_
  rintro r w' ⟨ht, hc⟩
  refine ⟨ht, ?_⟩
  rcases hc with ⟨h1, h2⟩ | ⟨k, P, h1, h2, hc⟩
  · exact .inl ⟨fun e => h1 (by rw [hpn]; push_cast at e; exact e), h2⟩
  · have hkl : k < L.length := by
      have := (List.getElem?_eq_some_iff.1 h2).1
      omega
    have hrv := h.readV h2 (List.getElem?_eq_getElem hkl)
    rcases hc with ⟨e, _⟩ | ⟨_, e, _⟩ | ⟨_, l, g, e, hr, hls, hg⟩
    · rw [h.on] at e
      cases e
    · rw [hrv] at e
      cases e
    · rw [hrv] at e
      obtain rfl := Option.some.inj e
      exact .inr ⟨k, _, g, h1, List.getElem?_eq_getElem hkl, hr, hls, hg⟩
end
end Go.Proofs.YtbfeejkdlhdioaaDoor
namespace Go.Proofs.YtbfeejkdlhdioaaDoor
open Go.RowKit
set_option linter.unusedVariables false
/-- bytes as a string's value -/
def strV (l : List UInt8) : Value := .string ⟨l.toArray⟩
section
variable {a : Act} {o : Oper} {W : World}
theorem exec_str {x : Operand} {b off n c : Nat} {l : List UInt8} (ho : o.op = .convert 38 9 x) (hx : a.eval x = .slice (some ⟨b, off, none⟩) n c) (hl : l.length = n) (hr : W.rangeAt b off (bcs l)) : (execOp a.eval o).run Tryd.prog W = .ok (.value (strV l)) W := by
  subst hl
  have h := run_convert_bytes_back (P := Tryd.prog) W 38 9 5 ⟨b, off, none⟩ c l Tryd.underlying38 Tryd.underlying5 Tryd.underlying9 (fun j hj => by
    rw [add_nat]
    refine hr j _ ?_
    rw [bcs_at l j hj, List.getD_eq_getElem?_getD, List.getElem?_eq_getElem hj]
    rfl)
  unfold execOp
  simp only [ho, hx, h, Sem.run_bind, Sem.run_pure, Result.andThen_ok, strV]
/-- whatever the slice is -/
theorem exec_strBs {x : Operand} {A : Option Addr} {n c : Nat} {l : List UInt8} (ho : o.op = .convert 38 9 x) (hx : a.eval x = .slice A n c) (hb : Bs W A n l) : (execOp a.eval o).run Tryd.prog W = .ok (.value (strV l)) W := by
  obtain ⟨h1, h2, h3⟩ := hb
  by_cases hp : 0 < n
  · obtain ⟨b, off, rfl, hc⟩ := h3 hp
    exact exec_str ho hx h1 (fun j v hj => by
      have hjl : j < l.length := by
        have := (List.getElem?_eq_some_iff.1 hj).1
        rwa [bcs_length] at this
      rw [bcs_at l j hjl] at hj
      rw [← hj]
      exact hc j (by omega))
  · have h0 : n = 0 := by omega
    subst h0
    have hl : l = [] := List.eq_nil_of_length_eq_zero h1
    subst hl
    have h := run_convert_bytes_string (P := Tryd.prog) W 38 9 5 A 0 c Tryd.underlying38 Tryd.underlying5 Tryd.underlying9
    unfold execOp
    simp only [ho, hx, h, Sem.run_bind]
    cases A <;> rfl
theorem exec_seql {x y : Operand} {l m : List UInt8} {t u : TypeId} (ho : o.op = .binOp .eql t x y u) (hx : a.eval x = strV l) (hy : a.eval y = strV m) : (execOp a.eval o).run Tryd.prog W = .ok (.value (.bool (l == m))) W := by
  unfold execOp
  simp [ho, hx, hy, strV, eqGuard, binOp_string_eql]
theorem exec_sneq {x y : Operand} {l m : List UInt8} {t u : TypeId} (ho : o.op = .binOp .neq t x y u) (hx : a.eval x = strV l) (hy : a.eval y = strV m) : (execOp a.eval o).run Tryd.prog W = .ok (.value (.bool (!(l == m)))) W := by
  unfold execOp
  simp [ho, hx, hy, strV, eqGuard, binOp_string_neq]
end
end Go.Proofs.YtbfeejkdlhdioaaDoor
namespace Go.Proofs.YtbfeejkdlhdioaaDoor
open Go.RowKit
open Wl (B8 Gp)
set_option linter.unusedVariables false
set_option linter.unusedSimpArgs false
set_option maxRecDepth 20000
theorem Firsts.turn {F : Nat → Prop} {w w' : World} {g b0 n i : Nat} {ls : List B8} (h : Firsts w g b0 n i ls) (ht : Turn F w w') (hg : ¬ F g) (hb : ¬ F b0) : Firsts w' g b0 n i ls := by
  obtain ⟨cs, h1, h2, h3, h4⟩ := h
  exact ⟨cs, h1.turn ht hg, h2, h3, fun j l hj => by
    obtain ⟨a, m, q1, q2, q3⟩ := h4 j l hj
    refine ⟨a, m, q1, q2.turn ht fun b' o' _ e hb' => ?_, q3⟩
    injection e with e
    injection e with e1 e2
    exact hb (by rw [e1]; exact hb')⟩
theorem apart2 {F F' G G' : Nat → Prop} {n g : Nat} (h : ¬ (F g ∨ G g)) (hg : g < n) (hF : ∀ b, F' b → F b ∨ n ≤ b) (hG : ∀ b, G' b → G b ∨ n ≤ b) : ¬ (F' g ∨ G' g) := by
  rintro (e | e)
  · rcases hF g e with e | e
    · exact h (.inl e)
    · omega
  · rcases hG g e with e | e
    · exact h (.inr e)
    · omega
/-- both blocks are there -/
theorem Firsts.lt {w : World} {g b0 : Nat} {x y : UInt8} (h : Firsts w g b0 2 2 [[x], [y]]) : g < w.heap.size ∧ b0 < w.heap.size := by
  obtain ⟨cs, h1, h2, h3, h4⟩ := h
  refine ⟨h1.lt, ?_⟩
  obtain ⟨a, m, _, q2, _⟩ := h4 0 [x] rfl
  obtain rfl : 1 = m := q2.1
  obtain ⟨b, o, e, hc⟩ := q2.2.2 (by decide)
  injection e with e
  injection e with e1 e2
  subst e1
  exact World.block_lt_of_cell? _ _ (hc 0 (by decide))
/-- the two texts as cells -/
theorem Firsts.two {w : World} {g b0 : Nat} {x y : UInt8} (h : Firsts w g b0 2 2 [[x], [y]]) : ∃ a c, w.cell? ⟨g, 0, none⟩ = some (.slice (some ⟨b0, a, none⟩) 1 1) ∧ Bs w (some ⟨b0, a, none⟩) 1 [x] ∧ w.cell? ⟨g, 1, none⟩ = some (.slice (some ⟨b0, c, none⟩) 1 1) ∧ Bs w (some ⟨b0, c, none⟩) 1 [y] := by
  obtain ⟨cs, h1, h2, h3, h4⟩ := h
  obtain ⟨a, m, p1, p2, _⟩ := h4 0 [x] rfl
  obtain ⟨c, k, q1, q2, _⟩ := h4 1 [y] rfl
  obtain rfl : 1 = m := p2.1
  obtain rfl : 1 = k := q2.1
  exact ⟨a, c, by rw [h1.cell]; exact p1, p2, by rw [h1.cell]; exact q1, q2⟩
section
variable {w w' : World} {x p i : Nat} {F : Nat → Prop} {s : AP} {K : Nat} {d : AD} {S : Nat} {v : WalV} {vP vH : Value} {L : List Wl.Rec} {gs : List Gp}
/-- an open log whose plant's fuse is set -/
theorem Lg.fuse (h : Lg w x p i F s K d S v vP vH L gs) (m : Int) (hm : -9223372036854775808 ≤ m ∧ m ≤ 9223372036854775807) :
    Calls Tryd.prog 26 #[.pointer (some ⟨p, 0, none⟩), .int .i64 m] w fun e w' => e = .returned (.tuple #[]) ∧ Turn F w w' ∧ ∃ F', (∀ b, F' b → F b ∨ w.heap.size ≤ b) ∧ Lg w' x p i F' { s with fuse := m } K d S v vP vH L gs := by
  refine (fuseP h.pt m hm).mono ?_
  rintro e w' ⟨rfl, F', hp, ht, hF⟩
  rw [h.on, if_pos rfl, ← h.on] at hp
  have htl := tab_lt h.tab
  refine ⟨rfl, ht, F', hF, h.wb.turn ht fun b hb => (h.ap b hb).1, hp, tab_turn h.tab ht h.tf, ?_, h.ds, h.on, h.dry, fun b hb => ⟨fun e => ?_, (h.ap b hb).2⟩, h.lv, h.rm⟩
  · intro e
    rcases hF _ e with e | e
    · exact h.tf e
    · omega
  · rcases hF _ e with e | e
    · exact (h.ap b hb).1 e
    · have := h.glt hb
      omega
end
end Go.Proofs.YtbfeejkdlhdioaaDoor
