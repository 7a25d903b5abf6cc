/-
  A drawn region: an operation that reads no memory may be taken first. No conditions.
-/
import Derived.Test.YtkcedcllefcboaaStore
namespace Go.Proofs.Ytkcedcllefcboaa
open Go.RowKit
set_option linter.unusedVariables false
section
variable {P : Program} {md : Region.Mode} {ops : Array Oper} {Q : Exit → Act → World → Prop} {S : World → Prop} {k : Nat}
theorem till_pureAt {i : Nat} {o : Oper} {v : Value} (hi : ops[i]? = some o) (hsel : ∀ (j : Nat) (o : Oper) cs b, ops[j]? = some o → o.op ≠ .select cs b) (hki : k ≠ i) :
    ∀ (n : Nat) (l : Array Bool) (a : Act) (w : World), 
      (∀ j oj, ops[j]? = some oj → j ≠ i → l.getD j true = false → (∀ e ∈ oj.after, Region.binds md e = true → e.on ≠ i) → o.apart ops oj = true) →
      i ∈ Region.ready md ops l → YieldsIf P ops (fun _ => True) o v a → (l.getD k true = false → S w) → (∀ c a w, Q (.panic c) (a.put o.dst v) w → Q (.panic c) a w) →
      Till P md ops Q S k n (l.setIfInBounds i true) (a.put o.dst v) w → Till P md ops Q S k (n + 1) l a w := by
  have hread : ∀ (l : Array Bool) (j : Nat), i ∈ Region.ready md ops l → j ∈ Region.ready md ops l → j ≠ i → ∃ oj, ops[j]? = some oj ∧ l.getD j true = false ∧ ∀ e ∈ oj.after, Region.binds md e = true → e.on ≠ i := by
    intro l j hr hj hji
    obtain ⟨h0, oj, hoj, hall⟩ := mem_ready.1 hj
    have hun := (mem_ready.1 hr).1
    refine ⟨oj, hoj, h0, fun e he hb heq => ?_⟩
    have h2 := hall e he hb
    rw [heq] at h2
    rcases Nat.lt_or_ge i l.size with hlt | hge
    · rw [Array.getD_eq_getD_getElem?, Array.getElem?_eq_getElem hlt] at h2 hun
      simp only [Option.getD_some] at h2 hun
      rw [h2] at hun
      cases hun
    · rw [Array.getD_eq_getD_getElem?, Array.getElem?_eq_none hge] at h2
      cases h2
  intro n
  induction n with
  | zero =>
    intro l a w _ hr hy hS _ H
    refine ⟨fun h => (by rw [h] at hr; cases hr), fun j hj => ?_⟩
    by_cases hji : j = i
    · subst hji
      exact hy.wpOp hi trivial ⟨fun e => hS (by rwa [getD_set_ne true hki.symm] at e), H⟩
    · have := ready_mono hj hji
      rw [H.1] at this
      cases this
  | succ n ih =>
    intro l a w hfree hr hy hS hQ H
    refine ⟨fun h => (by rw [h] at hr; cases hr), fun j hj => ?_⟩
    by_cases hji : j = i
    · subst hji
      exact hy.wpOp hi trivial ⟨fun e => hS (by rwa [getD_set_ne true hki.symm] at e), H⟩
    · obtain ⟨oj, hoj, hjun, hno⟩ := hread l j hr hj hji
      have h1 := H.2 j (ready_mono hj hji)
      have h2 := wpOp_putIf (S := fun _ => True) hoj (hfree j oj hoj hji hjun hno) (fun cs b => hsel i o cs b hi) (fun cs b => hsel j oj cs b hoj) hQ hy h1
      refine wpOp_mono (fun a' w' h3 => ⟨fun e => ?_, ih (l.setIfInBounds j true) a' w' ?_ (ready_mono hr (Ne.symm hji)) h3.1 (fun e => ?_) hQ ?_⟩) h2
      · exact h3.2.1 (by rw [Array.setIfInBounds_comm _ _ (Ne.symm hji), getD_set_ne true hki.symm]; exact e)
      · intro m om hm hmi hun hn
        refine hfree m om hm hmi ?_ hn
        by_cases hjm : j = m
        · subst hjm
          exact hjun
        · rwa [getD_set_ne true hjm] at hun
      · exact h3.2.1 (by rw [Array.setIfInBounds_comm _ _ (Ne.symm hji), getD_set_ne true hki.symm]; exact e)
      · rw [Array.setIfInBounds_comm _ _ hji]
        exact h3.2.2
theorem till_pure {i : Nat} {o : Oper} {v : Value} {n : Nat} {l : Array Bool} {a : Act} {w : World} (hi0 : ops.toList[i]? = some o) (hs : Region.noSelect ops = true)
    (hf : (Region.free md ops l i && (Region.ready md ops l).contains i && decide (k ≠ i)) = true)
    (hQ : ∀ c a w, Q (.panic c) (a.put o.dst v) w → Q (.panic c) a w) (hy : YieldsIf P ops (fun _ => True) o v a) (hS : S w)
    (h : Till P md ops Q S k n (l.setIfInBounds i true) (a.put o.dst v) w) : Till P md ops Q S k (n + 1) l a w := by
  have hi : ops[i]? = some o := by rw [← hi0, Array.getElem?_toList]
  simp only [Bool.and_eq_true, decide_eq_true_eq] at hf
  obtain ⟨⟨h1, h2⟩, h5⟩ := hf
  exact till_pureAt hi (Region.noSelect_spec hs) h5 n l a w (Region.free_spec hi h1) (by simpa using h2) hy (fun _ => hS) hQ h
/-- a read that k waits for by way of m -/
theorem till_first2 {i m : Nat} {o : Oper} {v : Value} (hi : ops[i]? = some o) (hsel : ∀ (j : Nat) (o : Oper) cs b, ops[j]? = some o → o.op ≠ .select cs b) (hki : k ≠ i) (hmi : m ≠ i)
    (hm : ∃ om, ops[m]? = some om ∧ ∃ e ∈ om.after, Region.binds md e = true ∧ e.on = i) (hk : ∃ ok, ops[k]? = some ok ∧ ∃ e ∈ ok.after, Region.binds md e = true ∧ e.on = m) :
    ∀ (n : Nat) (l : Array Bool) (a : Act) (w : World), l.getD k true = false → l.getD m true = false →
      (∀ j oj, ops[j]? = some oj → j ≠ i → l.getD j true = false → (∀ e ∈ oj.after, Region.binds md e = true → e.on ≠ i) → o.apart ops oj = true) →
      i ∈ Region.ready md ops l → YieldsIf P ops S o v a → S w → (∀ c a w, Q (.panic c) (a.put o.dst v) w → Q (.panic c) a w) →
      Till P md ops Q S k n (l.setIfInBounds i true) (a.put o.dst v) w → Till P md ops Q S k (n + 1) l a w := by
  have hwait : ∀ (l : Array Bool) (x j : Nat) (oj : Oper), l.getD x true = false → ops[j]? = some oj → (∀ e ∈ oj.after, Region.binds md e = true → l.getD e.on false = true) → ∀ e ∈ oj.after, Region.binds md e = true → e.on ≠ x := by
    intro l x j oj hun hoj hall e he hb heq
    have h2 := hall e he hb
    rw [heq] at h2
    rcases Nat.lt_or_ge x l.size with hlt | hge
    · rw [Array.getD_eq_getD_getElem?, Array.getElem?_eq_getElem hlt] at h2 hun
      simp only [Option.getD_some] at h2 hun
      rw [h2] at hun
      cases hun
    · rw [Array.getD_eq_getD_getElem?, Array.getElem?_eq_none hge] at h2
      cases h2
  have hread : ∀ (l : Array Bool) (j : Nat), l.getD m true = false → i ∈ Region.ready md ops l → j ∈ Region.ready md ops l → j ≠ i → ∃ oj, ops[j]? = some oj ∧ l.getD j true = false ∧ j ≠ k ∧ j ≠ m ∧ ∀ e ∈ oj.after, Region.binds md e = true → e.on ≠ i := by
    intro l j hml hr hj hji
    obtain ⟨h0, oj, hoj, hall⟩ := mem_ready.1 hj
    have hno := hwait l i j oj (mem_ready.1 hr).1 hoj hall
    have hnm := hwait l m j oj hml hoj hall
    refine ⟨oj, hoj, h0, ?_, ?_, hno⟩
    · rintro rfl
      obtain ⟨ok, hok, e, he, hb, hon⟩ := hk
      rw [hoj] at hok
      injection hok with hok
      subst hok
      exact hnm e he hb hon
    · rintro rfl
      obtain ⟨ok, hok, e, he, hb, hon⟩ := hm
      rw [hoj] at hok
      injection hok with hok
      subst hok
      exact hno e he hb hon
  intro n
  induction n with
  | zero =>
    intro l a w hkl hml _ hr hy hS _ H
    refine ⟨fun h => (by rw [h] at hr; cases hr), fun j hj => ?_⟩
    by_cases hji : j = i
    · subst hji
      exact hy.wpOp hi hS ⟨fun _ => hS, H⟩
    · have := ready_mono hj hji
      rw [H.1] at this
      cases this
  | succ n ih =>
    intro l a w hkl hml hfree hr hy hS hQ H
    refine ⟨fun h => (by rw [h] at hr; cases hr), fun j hj => ?_⟩
    by_cases hji : j = i
    · subst hji
      exact hy.wpOp hi hS ⟨fun _ => hS, H⟩
    · obtain ⟨oj, hoj, hjun, hjk, hjm0, hno⟩ := hread l j hml hr hj hji
      have h1 := H.2 j (ready_mono hj hji)
      have h2 := wpOp_putIf hoj (hfree j oj hoj hji hjun hno) (fun cs b => hsel i o cs b hi) (fun cs b => hsel j oj cs b hoj) hQ hy h1
      have hk' : (l.setIfInBounds j true).getD k true = false := by rw [getD_set_ne true hjk]; exact hkl
      have hm' : (l.setIfInBounds j true).getD m true = false := by rw [getD_set_ne true hjm0]; exact hml
      have hk2 : ((l.setIfInBounds i true).setIfInBounds j true).getD k true = false := by rw [getD_set_ne true hjk, getD_set_ne true (Ne.symm hki)]; exact hkl
      refine wpOp_mono (fun a' w' h3 => ⟨fun _ => h3.2.1 hk2, ih (l.setIfInBounds j true) a' w' hk' hm' ?_ (ready_mono hr (Ne.symm hji)) h3.1 (h3.2.1 hk2) hQ ?_⟩) h2
      · intro q om hq hqi hun hn
        refine hfree q om hq hqi ?_ hn
        by_cases hjm : j = q
        · subst hjm
          exact hjun
        · rwa [getD_set_ne true hjm] at hun
      · rw [Array.setIfInBounds_comm _ _ hji]
        exact h3.2.2
theorem till_take2 (m : Nat) {i : Nat} {o : Oper} {v : Value} {n : Nat} {l : Array Bool} {a : Act} {w : World} (hi0 : ops.toList[i]? = some o) (hs : Region.noSelect ops = true)
    (hf : (Region.free md ops l i && (Region.ready md ops l).contains i && Region.waitsFor md ops m i && Region.waitsFor md ops k m && !(l.getD k true) && !(l.getD m true) && decide (k ≠ i) && decide (m ≠ i)) = true)
    (hQ : ∀ c a w, Q (.panic c) (a.put o.dst v) w → Q (.panic c) a w) (hy : YieldsIf P ops S o v a) (hS : S w)
    (h : Till P md ops Q S k n (l.setIfInBounds i true) (a.put o.dst v) w) : Till P md ops Q S k (n + 1) l a w := by
  have hi : ops[i]? = some o := by rw [← hi0, Array.getElem?_toList]
  simp only [Bool.and_eq_true, decide_eq_true_eq, Bool.not_eq_true'] at hf
  obtain ⟨⟨⟨⟨⟨⟨⟨h1, h2⟩, h3⟩, h4⟩, h5⟩, h6⟩, h7⟩, h8⟩ := hf
  exact till_first2 hi (Region.noSelect_spec hs) h7 h8 (Region.waitsFor_spec h3) (Region.waitsFor_spec h4) n l a w h5 h6 (Region.free_spec hi h1) (by simpa using h2) hy hS hQ h
end
end Go.Proofs.Ytkcedcllefcboaa
