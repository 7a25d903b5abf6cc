/-
  standin in memory: its cards as keys, its limits, what cards have had. No conditions.
-/
import Derived.Test.YtenflpbmjahbgaaGno
import Derived.Test.YtenflpbmjahbgaaMpf
import Derived.Test.YtenflpbmjahbgaaStq
import Derived.DeepKeys4
import Derived.MapViews
import Derived.OpenShut
import Derived.ShutString
import Derived.Lib.SmallJoins
import Derived.Below
namespace Go.Proofs.Ytenflpbmjahbgaa
open Go.RowKit Go.Maps Go.ChangeShapes
set_option linter.unusedVariables false
namespace Si
/-- a card of a member -/
abbrev Card := Int × List UInt8
abbrev Lims := List (Int × Int)
def okA (x : Int) : Prop := 0 ≤ x ∧ x ≤ 999999999999
instance (x : Int) : Decidable (okA x) := by unfold okA; infer_instance
def okL (l : Lims) : Prop := ∀ s ∈ l, okA s.1 ∧ okA s.2
instance (l : Lims) : Decidable (okL l) := by unfold okL; infer_instance
/-- P15.1's answer -/
def newE (l : Lims) : Int := if l.length < 1 ∨ 6 < l.length then 130 else if okL l then 0 else 150
/-- P15.2's answer -/
def askE (l : Lims) (h : Card → Int) (c : Card) (a : Int) : Int :=
  if c.1 < 0 ∨ (l.length : Int) ≤ c.1 then 130 else if ¬ okA a then 100 else if (l.getD c.1.toNat (0, 0)).1 < a ∨ (l.getD c.1.toNat (0, 0)).2 < h c + a then 150 else 0
def put (h : Card → Int) (c : Card) (x : Int) : Card → Int := fun d => if d = c then x else h d
def askH (l : Lims) (h : Card → Int) (c : Card) (a : Int) : Card → Int := if askE l h c a = 0 then put h c (h c + a) else h
def okH (h : Card → Int) : Prop := ∀ c, okA (h c)
theorem put_same (h : Card → Int) (c : Card) : put h c (h c) = h := by
  funext d
  unfold put
  split
  · next e => rw [e]
  · rfl
theorem ask_bad1 {l : Lims} {h : Card → Int} {c : Card} {a : Int} (hc : c.1 < 0 ∨ (l.length : Int) ≤ c.1) : askE l h c a = 130 ∧ askH l h c a = h := by
  have e : askE l h c a = 130 := by unfold askE; rw [if_pos hc]
  exact ⟨e, by unfold askH; rw [e, if_neg (by decide)]⟩
theorem ask_bad2 {l : Lims} {h : Card → Int} {c : Card} {a : Int} (hc : ¬ (c.1 < 0 ∨ (l.length : Int) ≤ c.1)) (ha : ¬ okA a) : askE l h c a = 100 ∧ askH l h c a = h := by
  have e : askE l h c a = 100 := by unfold askE; rw [if_neg hc, if_pos ha]
  exact ⟨e, by unfold askH; rw [e, if_neg (by decide)]⟩
theorem ask_bad3 {l : Lims} {h : Card → Int} {c : Card} {a : Int} (hc : ¬ (c.1 < 0 ∨ (l.length : Int) ≤ c.1)) (ha : okA a) {s : Int × Int} (hs : l[c.1.toNat]? = some s) (hb : s.1 < a ∨ s.2 < h c + a) : askE l h c a = 150 ∧ askH l h c a = h := by
  have e : askE l h c a = 150 := by
    unfold askE
    rw [if_neg hc, if_neg (fun f => f ha), List.getD_eq_getElem?_getD, hs, if_pos (by simpa using hb)]
  exact ⟨e, by unfold askH; rw [e, if_neg (by decide)]⟩
theorem ask_ok {l : Lims} {h : Card → Int} {c : Card} {a : Int} (hc : ¬ (c.1 < 0 ∨ (l.length : Int) ≤ c.1)) (ha : okA a) {s : Int × Int} (hs : l[c.1.toNat]? = some s) (hb : ¬ (s.1 < a ∨ s.2 < h c + a)) : askE l h c a = 0 ∧ askH l h c a = put h c (h c + a) := by
  have e : askE l h c a = 0 := by
    unfold askE
    rw [if_neg hc, if_neg (fun f => f ha), List.getD_eq_getElem?_getD, hs, if_neg (by simpa using hb)]
  exact ⟨e, by unfold askH; rw [e, if_pos rfl]⟩
theorem okH_ask {l : Lims} {h : Card → Int} (c : Card) (a : Int) (hl : okL l) (hh : okH h) : okH (askH l h c a) := by
  by_cases h1 : c.1 < 0 ∨ (l.length : Int) ≤ c.1
  · rw [(ask_bad1 h1).2]; exact hh
  by_cases h2 : okA a
  · have hi : c.1.toNat < l.length := by omega
    have hs : l[c.1.toNat]? = some l[c.1.toNat] := List.getElem?_eq_getElem hi
    by_cases h3 : (l[c.1.toNat]).1 < a ∨ (l[c.1.toNat]).2 < h c + a
    · rw [(ask_bad3 h1 h2 hs h3).2]; exact hh
    · rw [(ask_ok h1 h2 hs h3).2]
      intro d
      unfold put
      split
      · have := (hl _ (List.getElem_mem hi)).2
        have h4 := hh c
        unfold okA at *
        omega
      · exact hh d
  · rw [(ask_bad2 h1 h2).2]; exact hh
/-- what the reference tells: the first of its row -/
abbrev Hd := Int × Int × List UInt8
def told (L : List Hd) (c : Card) : Int := match L with
  | [] => 0
  | x :: r => if x.1 = c.1 ∧ x.2.2 = c.2 then x.2.1 else told r c
def others (L : List Hd) (c : Card) : List Hd := L.filter fun x => decide (x.1 ≠ c.1 ∨ x.2.2 ≠ c.2)
theorem told_others {c d : Card} (hd : d ≠ c) : ∀ L : List Hd, told (others L c) d = told L d
  | [] => rfl
  | x :: r => by
    have ih := told_others hd r
    unfold others at ih ⊢
    rw [List.filter_cons]
    by_cases h : x.1 ≠ c.1 ∨ x.2.2 ≠ c.2
    · rw [if_pos (decide_eq_true h)]
      simp only [told]
      rw [ih]
    · rw [if_neg (by simpa using h), ih]
      simp only [told]
      rw [if_neg (fun e => hd (by
        have h1 : x.1 = c.1 := Classical.byContradiction fun f => h (.inl f)
        have h2 : x.2.2 = c.2 := Classical.byContradiction fun f => h (.inr f)
        exact Prod.ext (e.1.symm.trans h1) (e.2.symm.trans h2)))]
theorem told_put (L : List Hd) (c : Card) (x : Int) : told ((c.1, x, c.2) :: others L c) = put (told L) c x := by
  funext d
  unfold put
  by_cases e : d = c
  · subst e
    simp only [told]
    simp
  · rw [if_neg e]
    simp only [told]
    rw [if_neg (fun f => e (Prod.ext f.1.symm f.2.symm)), told_others e]
theorem told_at {c : Card} : ∀ {L : List Hd} {i : Nat} {x : Hd}, L[i]? = some x → (x.1 = c.1 ∧ x.2.2 = c.2) → (∀ j y, j < i → L[j]? = some y → ¬ (y.1 = c.1 ∧ y.2.2 = c.2)) → told L c = x.2.1
  | y :: r, 0, x, h, hx, _ => by
    injection h with h
    subst h
    simp only [told]
    rw [if_pos hx]
  | y :: r, i + 1, x, h, hx, hn => by
    simp only [told]
    rw [if_neg (hn 0 y (by omega) rfl)]
    exact told_at (L := r) (i := i) h hx fun j z hj hz => hn (j + 1) z (by omega) hz
theorem told_no {c : Card} : ∀ {L : List Hd}, (∀ j y, j < L.length → L[j]? = some y → ¬ (y.1 = c.1 ∧ y.2.2 = c.2)) → told L c = 0
  | [], _ => rfl
  | y :: r, hn => by
    simp only [told]
    rw [if_neg (hn 0 y (by simp) rfl)]
    exact told_no (L := r) fun j z hj hz => hn (j + 1) z (by simpa using hj) hz
end Si
open Si (Card Lims)
abbrev Crd := { c : Card // (Lit.int .i64 c.1).wf = true ∧ c.2.length ≤ 281474976710656 }
def cardV (c : Card) : Value := .agg #[.int .i64 c.1, strV c.2]
def limC (s : Int × Int) : List Value := [.int .i64 s.1, .int .i64 s.2]
def hadC (x : Si.Hd) : List Value := [.int .i64 x.1, .int .i64 x.2.1, strV x.2.2]
theorem si_laid : laidOutB Try.prog = true := by kernel_rfl
theorem card_law : WideMaps.KeyLaw Try.prog 55 := deep_law_laid si_laid (m := 2) (by omega) (of_decide_eq_true (by kernel_rfl)) (by kernel_rfl) (by kernel_rfl)
theorem cells_card : Try.prog.cellsOf 55 = 2 := by kernel_rfl
theorem card_key (c : Crd) : ∃ l, keyOf Try.prog 55 (cardV c.1) = some l := by
  have hd := Go.Joins.shut_agg2 (H := Unit) (enc := fun _ => ()) (w := World.settled Try.prog default) (base := 0) (spare := fun _ => true) (held := true) (y0 := (.lit (.int .i64 c.1.1), [])) (y1 := (.lit (.string c.1.2), [])) (v0 := .int .i64 c.1.1) (v1 := strV c.1.2) Try.underlying55 (by kernel_rfl) cells_card
    ⟨1, by simp [DataW.trod, Try.underlying3, c.2.1]⟩ ⟨1, by
      have := c.2.2
      simp [DataW.trod, Try.underlying9, strV, ByteArray.size, maxLen]
      omega⟩
  have hf : (cardV c.1).formed Try.prog 55 = true := by
    simp [Value.formed, cardV, Try.underlying55, cells_card]
  exact ⟨_, (keyOf_asKey (by kernel_rfl) (by kernel_rfl) hf hd).1⟩
noncomputable def cardK : MKey Try.prog 55 Crd where
  kv c := cardV c.1
  kl c := (keyOf Try.prog 55 (cardV c.1)).getD (.bool false)
  ok _ := True
  keyed := Keyed.of_law card_law
  key c _ := by
    obtain ⟨l, h⟩ := card_key c
    rw [h]
    rfl
  inj x y h := by
    obtain ⟨l, hx⟩ := card_key x
    obtain ⟨m, hy⟩ := card_key y
    rw [hx, hy] at h
    simp only [Option.getD_some] at h
    subst h
    have e := card_law.inj hx hy
    unfold cardV at e
    injection e with e
    injection e with e
    injection e with e1 e2
    injection e2 with e2 _
    injection e1 with _ e1
    unfold strV at e2
    injection e2 with e2
    injection e2 with e2
    injection e2 with e2
    exact Subtype.ext (Prod.ext e1 e2)
/-- what may be written beside a desk: maps, and the reference's desks -/
def Siw (w : World) (k : Nat) : Prop := (∃ es cl, w.heap[k]? = some (.map es cl)) ∨ ∃ cs, Blk w k 52 cs
/-- a desk at a, its map at b: its limits, and what each card has had -/
structure Desk (w : World) (a b : Nat) (l : Lims) (n : Nat) (h : Card → Int) : Prop where
  blk : ∃ A c, Blk w a 49 #[.slice A l.length c, .map (some b)] ∧ Orw w 0 30 2 (.slice A l.length c) (l.map limC)
  map : ∃ f : Crd → Option Int, MapAt w cardK intE b n f ∧ ∀ c : Crd, (f c).getD 0 = h c.1
  okl : Si.okL l
  len : 1 ≤ l.length ∧ l.length ≤ 6
  okh : Si.okH h
/-- the reference's desk at y -/
structure RDesk (w : World) (y : Nat) (l : Lims) (n : Nat) (h : Card → Int) : Prop where
  blk : ∃ A c B m d, ∃ L : List Si.Hd, Blk w y 52 #[.slice A l.length c, .slice B m d] ∧ Orw w 0 30 2 (.slice A l.length c) (l.map limC) ∧ Orw w 0 60 3 (.slice B m d) (L.map hadC) ∧ L.length = m ∧ m ≤ n ∧ Si.told L = h
  okl : Si.okL l
  len : 1 ≤ l.length ∧ l.length ≤ 6
  okh : Si.okH h
section
variable {w w' : World} {a b n m y : Nat} {l : Lims} {h : Card → Int} {F : Nat → Prop}
theorem siw_blk {t : TypeId} {cs : Array Value} {k : Nat} (hb : Blk w k t cs) (ht : t ≠ 52) : ¬ Siw w k := by
  rintro (⟨es, cl, h⟩ | ⟨cs', h⟩)
  · unfold Blk at hb
    rw [hb] at h
    cases h
  · exact hb.ne_ h ht rfl
theorem siw_orw {B k : Nat} {t : TypeId} {v : Value} {rs : List (List Value)} (hr : Orw w B t k v rs) (ht : t ≠ 52) : ∀ g, v.ownBlock = some g → ¬ Siw w g := fun g hg => by
  obtain ⟨cur, hc⟩ := hr.own_blk hg
  exact siw_blk hc ht
theorem Desk.turn (d : Desk w a b l n h) (ht : Turn F w w') (hF : ∀ k, k < w.heap.size → F k → Siw w k) (hb : ¬ F b) : Desk w' a b l n h := by
  obtain ⟨⟨A, c, h1, h2⟩, ⟨f, h3, h4⟩, h5, h6, h7⟩ := d
  refine ⟨⟨A, c, h1.turn ht (fun e => siw_blk h1 (by decide) (hF _ h1.lt e)), h2.turn ht fun g hg e => siw_orw h2 (by decide) g hg (hF _ (h2.lt hg).2 e)⟩, ⟨f, h3.turn ht hb, h4⟩, h5, h6, h7⟩
theorem Desk.still (d : Desk w a b l n h) (ht : Turn nowhere w w') : Desk w' a b l n h := d.turn ht (fun k _ e => e.elim) fun e => e
theorem Desk.mono (d : Desk w a b l n h) (hn : n ≤ m) : Desk w a b l m h := by
  obtain ⟨h1, ⟨f, h3, h4⟩, h5, h6, h7⟩ := d
  exact ⟨h1, ⟨f, h3.mono hn, h4⟩, h5, h6, h7⟩
theorem Desk.siw (d : Desk w a b l n h) : Siw w b := by
  obtain ⟨f, h3, _⟩ := d.map
  exact .inl h3.map_
theorem Desk.lt (d : Desk w a b l n h) : b < w.heap.size := by
  obtain ⟨f, h3, _⟩ := d.map
  exact h3.lt
theorem RDesk.turn (d : RDesk w y l n h) (ht : Turn F w w') (hF : ∀ k, k < w.heap.size → F k → Siw w k) (hy : ¬ F y) : RDesk w' y l n h := by
  obtain ⟨⟨A, c, B, m, q, L, h1, h2, h3, h4⟩, h5, h6, h7⟩ := d
  exact ⟨⟨A, c, B, m, q, L, h1.turn ht hy, h2.turn ht fun g hg e => siw_orw h2 (by decide) g hg (hF _ (h2.lt hg).2 e), h3.turn ht fun g hg e => siw_orw h3 (by decide) g hg (hF _ (h3.lt hg).2 e), h4⟩, h5, h6, h7⟩
theorem RDesk.still (d : RDesk w y l n h) (ht : Turn nowhere w w') : RDesk w' y l n h := d.turn ht (fun k _ e => e.elim) fun e => e
theorem RDesk.mono (d : RDesk w y l n h) (hn : n ≤ m) : RDesk w y l m h := by
  obtain ⟨⟨A, c, B, k, q, L, h1, h2, h3, h4, h8, h9⟩, h5, h6, h7⟩ := d
  exact ⟨⟨A, c, B, k, q, L, h1, h2, h3, h4, Nat.le_trans h8 hn, h9⟩, h5, h6, h7⟩
theorem RDesk.siw (d : RDesk w y l n h) : Siw w y := by
  obtain ⟨A, c, B, k, q, L, h1, _⟩ := d.blk
  exact .inr ⟨_, h1⟩
theorem RDesk.lt (d : RDesk w y l n h) : y < w.heap.size := by
  obtain ⟨A, c, B, k, q, L, h1, _⟩ := d.blk
  exact h1.lt
/-- a map is no reference's desk -/
theorem Desk.ne (d : Desk w a b l n h) {l' : Lims} {n' : Nat} {h' : Card → Int} (r : RDesk w y l' n' h') : b ≠ y := by
  rintro rfl
  obtain ⟨f, h3, _⟩ := d.map
  obtain ⟨es, cl, h4⟩ := h3.map_
  obtain ⟨A, c, B, k, q, L, h1, _⟩ := r.blk
  unfold Blk at h1
  rw [h1] at h4
  cases h4
end
end Go.Proofs.Ytenflpbmjahbgaa
