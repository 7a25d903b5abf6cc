/-
  SEVERAL PLANTS among kept blocks: what a law has that clones. No conditions.
-/
import Derived.Test.YteedjfgandgbkaaPlCb
import Derived.Test.YteedjfgandgbkaaPlAp
namespace Go.Proofs.Yteedjfgandgbkaa
open Go.RowKit Go.Maps
set_option linter.unusedVariables false
structure Fam (w0 : World) (L : Nat → Prop) (w : World) (n : Nat) (P : Nat → Nat) (S : Nat → AP) (K : Nat) : Prop where
  pl : ∃ F : Nat → Nat → Prop, (∀ i, i < n → PlantAt w (P i) (F i) (S i) K) ∧ (∀ i, i < n → ∀ k, F i k → ¬ L k) ∧ ∀ i j, i < n → j < n → i ≠ j → ∀ k, F i k → ¬ F j k
  lt : ∀ k, L k → k < w.heap.size
  lo : ∀ k, k < w0.heap.size → L k
  tr : Turn nowhere w0 w
section
variable {w0 w w' : World} {L : Nat → Prop} {n K : Nat} {P : Nat → Nat} {S : Nat → AP}
theorem Fam.start {p : Nat} {s : AP} (h : St w0 L w p s K) (hP : P 0 = p) (hS : S 0 = s) : Fam w0 L w 1 P S K := by
  obtain ⟨F, h1, h2⟩ := h.pl
  refine ⟨⟨fun _ => F, fun i hi => ?_, fun i _ => h2, fun i j hi hj hij => by omega⟩, h.lt, h.lo, h.tr⟩
  obtain rfl : i = 0 := by omega
  rw [hP, hS]
  exact h1
theorem Fam.mono (h : Fam w0 L w n P S K) {K' : Nat} (hK : K ≤ K') : Fam w0 L w n P S K' := by
  obtain ⟨⟨F, h1, h2, h3⟩, h4, h5, h6⟩ := h
  exact ⟨⟨F, fun i hi => (h1 i hi).mono hK, h2, h3⟩, h4, h5, h6⟩
/-- one of them at hand, the others kept -/
theorem Fam.at_ (h : Fam w0 L w n P S K) {i : Nat} (hi : i < n) : ∃ L', (∀ k, L k → L' k) ∧ St w0 L' w (P i) (S i) K ∧
    ∀ w' s' K' S', K ≤ K' → St w0 L' w' (P i) s' K' → Turn (kept L') w w' → S' i = s' → (∀ j, j < n → j ≠ i → S' j = S j) → Fam w0 L w' n P S' K' := by
  obtain ⟨⟨F, h1, h2, h3⟩, h4, h5, h6⟩ := h
  refine ⟨fun k => L k ∨ ∃ j, j < n ∧ j ≠ i ∧ F j k, fun k => .inl, ⟨⟨F i, h1 i hi, ?_⟩, ?_, fun k hk => .inl (h5 k hk), h6⟩, ?_⟩
  · rintro k hk (hl | ⟨j, hj, hji, hf⟩)
    · exact h2 i hi k hk hl
    · exact h3 i j hi hj (Ne.symm hji) k hk hf
  · rintro k (hl | ⟨j, hj, hji, hf⟩)
    · exact h4 k hl
    · exact (h1 j hj).lt hf
  · intro w' s' K' S' hK hst ht hS hS'
    obtain ⟨F', g1, g2⟩ := hst.pl
    refine ⟨⟨fun j => if j = i then F' else F j, fun j hj => ?_, fun j hj k hk hl => ?_, fun a b ha hb hab k hka hkb => ?_⟩, fun k hk => hst.lt k (.inl hk), h5, hst.tr⟩
    · try dsimp only at *
      by_cases e : j = i
      · subst e
        rw [if_pos rfl, hS]
        exact g1
      · rw [if_neg e, hS' j hj e]
        exact ((h1 j hj).turn ht fun k hk hkk => hkk (.inr ⟨j, hj, e, hk⟩)).mono hK
    · try dsimp only at *
      by_cases e : j = i
      · subst e
        rw [if_pos rfl] at hk
        exact g2 k hk (.inl hl)
      · rw [if_neg e] at hk
        exact h2 j hj k hk hl
    · dsimp only at hka hkb
      by_cases ea : a = i
      · subst ea
        have eb : b ≠ a := fun e => hab e.symm
        rw [if_pos rfl] at hka
        rw [if_neg eb] at hkb
        exact g2 k hka (.inr ⟨b, hb, eb, hkb⟩)
      · rw [if_neg ea] at hka
        by_cases eb : b = i
        · subst eb
          rw [if_pos rfl] at hkb
          exact g2 k hkb (.inr ⟨a, ha, ea, hka⟩)
        · rw [if_neg eb] at hkb
          exact h3 a b ha hb hab k hka hkb
theorem Fam.still (h : Fam w0 L w n P S K) (ht : Turn nowhere w w') : Fam w0 L w' n P S K := by
  obtain ⟨⟨F, h1, h2, h3⟩, h4, h5, h6⟩ := h
  exact ⟨⟨F, fun i hi => (h1 i hi).turn ht (fun _ _ e => e), h2, h3⟩, fun k hk => Nat.lt_of_lt_of_le (h4 k hk) ht.size, h5, h6.trans ht (fun _ _ e => e)⟩
/-- one more block is kept -/
theorem Fam.keep (h : Fam w0 L w n P S K) (ht : Turn nowhere w w') {g : Nat} (hg : w.heap.size ≤ g) (hg' : g < w'.heap.size) : Fam w0 (fun k => L k ∨ k = g) w' n P S K := by
  have h' := h.still ht
  obtain ⟨⟨F, h1, h2, h3⟩, h4, h5, h6⟩ := h
  refine ⟨⟨F, fun i hi => (h1 i hi).turn ht (fun _ _ e => e), fun i hi k hk hl => ?_, h3⟩, fun k hk => ?_, fun k hk => .inl (h5 k hk), h'.tr⟩
  · rcases hl with hl | rfl
    · exact h2 i hi k hk hl
    · have := (h1 i hi).lt hk
      omega
  · rcases hk with hk | rfl
    · exact h'.lt k hk
    · exact hg'
theorem Fam.poke (h : Fam w0 L w n P S K) {g : Nat} (ht : Turn (only g) w w') (hg : L g) (h0 : w0.heap.size ≤ g) : Fam w0 L w' n P S K := by
  obtain ⟨⟨F, h1, h2, h3⟩, h4, h5, h6⟩ := h
  refine ⟨⟨F, fun i hi => (h1 i hi).turn ht fun k hk e => h2 i hi k hk (by rw [show k = g from e]; exact hg), h2, h3⟩, fun k hk => Nat.lt_of_lt_of_le (h4 k hk) ht.size, h5, h6.trans ht (fun k hk e => ?_)⟩
  have e' : k = g := e
  omega
theorem Fam.bs (h : Fam w0 L w n P S K) {a : Option Addr} {len : Nat} {bs : List UInt8} (hb : Bs w0 a len bs) : Bs w a len bs := bs_below hb (h.tr.below (Nat.le_refl _) (fun _ _ e => e))
def CloneF (w0 : World) (L : Nat → Prop) (w : World) (n : Nat) (P : Nat → Nat) (S : Nat → AP) (K i : Nat) (e : Ending) (w' : World) : Prop :=
  ∃ q, e = .returned (.pointer (some ⟨q, 0, none⟩)) ∧ (∀ P' S', P' n = q → S' n = S i → (∀ j, j < n → P' j = P j) → (∀ j, j < n → S' j = S j) → Fam w0 L w' (n + 1) P' S' K) ∧ Turn nowhere w w'
theorem Fam.clone (h : Fam w0 L w n P S K) {i : Nat} (hi : i < n) (hK : K < 1099511627776) :
    Calls Try.prog 7 #[.pointer (some ⟨P i, 0, none⟩)] w (CloneF w0 L w n P S K i) := by
  obtain ⟨⟨F, h1, h2, h3⟩, h4, h5, h6⟩ := h
  refine (clone_walk (h1 i hi) hK).mono ?_
  rintro e w' ⟨q, F', rfl, hP, ht, hF⟩
  refine ⟨q, rfl, fun P' S' e1 e2 e3 e4 => ⟨⟨fun j => if j = n then F' else F j, fun j hj => ?_, fun j hj k hk hl => ?_, fun a b ha hb hab k hka hkb => ?_⟩, fun k hk => Nat.lt_of_lt_of_le (h4 k hk) ht.size, h5, h6.trans ht (fun _ _ e => e)⟩, ht⟩
  · try dsimp only at *
    by_cases e : j = n
    · subst e
      rw [if_pos rfl, e1, e2]
      exact hP
    · rw [if_neg e, e3 j (by omega), e4 j (by omega)]
      exact (h1 j (by omega)).turn ht fun _ _ e => e
  · try dsimp only at *
    by_cases e : j = n
    · subst e
      rw [if_pos rfl] at hk
      have := hF k hk
      have := h4 k hl
      omega
    · rw [if_neg e] at hk
      exact h2 j (by omega) k hk hl
  · dsimp only at hka hkb
    by_cases ea : a = n
    · subst ea
      have eb : b ≠ a := fun e => hab e.symm
      rw [if_pos rfl] at hka
      rw [if_neg eb] at hkb
      have := hF k hka
      have := (h1 b (by omega)).lt hkb
      omega
    · rw [if_neg ea] at hka
      by_cases eb : b = n
      · subst eb
        rw [if_pos rfl] at hkb
        have := hF k hkb
        have := (h1 a (by omega)).lt hka
        omega
      · rw [if_neg eb] at hkb
        exact h3 a b (by omega) (by omega) hab k hka hkb
end
/-- three of something -/
def p3 {α : Type} (a b c : α) : Nat → α
  | 0 => a
  | 1 => b
  | _ => c
end Go.Proofs.Yteedjfgandgbkaa
