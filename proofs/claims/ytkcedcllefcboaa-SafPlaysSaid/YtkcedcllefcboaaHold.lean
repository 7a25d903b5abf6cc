/-
  A REGION THAT DRAWS ITS ORDER AND WRITES AT ITS END WHAT IT READ: reads are taken first under a fact S on the world, which is owed only till operation k (which waits for them) has come up. No conditions; it imports nothing of the program.
-/
import Derived.Test.YtkcedcllefcboaaMem
import Derived.Deep.RegionHeld3
import Derived.Deep.MidRow
import Derived.StillTail
namespace Go.Proofs.Ytkcedcllefcboaa
section
variable {P : Program} {md : Region.Mode} {ops : Array Oper} {Q : Exit → Act → World → Prop} {S : World → Prop} {k : Nat} {rest : List Oper}
/-- whatever order is picked, and S holds as long as k has not come up -/
def Till (P : Program) (md : Region.Mode) (ops : Array Oper) (Q : Exit → Act → World → Prop) (S : World → Prop) (k : Nat) : Nat → Array Bool → Act → World → Prop
  | 0, l, a, w => Region.ready md ops l = [] ∧ Q .normal a w
  | n + 1, l, a, w => (Region.ready md ops l = [] → Q .normal a w) ∧
      ∀ i ∈ Region.ready md ops l, wpOp P ops Q i (fun a' w' => ((l.setIfInBounds i true).getD k true = false → S w') ∧ Till P md ops Q S k n (l.setIfInBounds i true) a' w') a w
theorem till_any : ∀ (n : Nat) (l : Array Bool) (a : Act) (w : World), Till P md ops Q S k n l a w → wpAny P md ops Q n l a w
  | 0, _, _, _, h => h
  | n + 1, _, _, _, h => ⟨h.1, fun i hi => wpOp_mono (fun _ _ h' => till_any n _ _ _ h'.2) (h.2 i hi)⟩
theorem till_first {i : Nat} {o : Oper} {v : Value} (hi : ops[i]? = some o) (hsel : ∀ (j : Nat) (o : Oper) cs b, ops[j]? = some o → o.op ≠ .select cs b) (hki : k ≠ i)
    (hk : ∃ ok, ops[k]? = some ok ∧ ∃ e ∈ ok.after, Region.binds md e = true ∧ e.on = i) :
    ∀ (n : Nat) (l : Array Bool) (a : Act) (w : World), l.getD k true = false →
      (∀ j oj, ops[j]? = some oj → j ≠ i → l.getD j true = false → (∀ e ∈ oj.after, Region.binds md e = true → e.on ≠ i) → o.apart ops oj = true) →
      i ∈ Region.ready md ops l → YieldsIf P ops S o v a → S w → (∀ c a w, Q (.panic c) (a.put o.dst v) w → Q (.panic c) a w) →
      Till P md ops Q S k n (l.setIfInBounds i true) (a.put o.dst v) w → Till P md ops Q S k (n + 1) l a w := by
  have hread : ∀ (l : Array Bool) (j : Nat), i ∈ Region.ready md ops l → j ∈ Region.ready md ops l → j ≠ i → ∃ oj, ops[j]? = some oj ∧ l.getD j true = false ∧ j ≠ k ∧ ∀ e ∈ oj.after, Region.binds md e = true → e.on ≠ i := by
    intro l j hr hj hji
    obtain ⟨h0, oj, hoj, hall⟩ := mem_ready.1 hj
    have hun := (mem_ready.1 hr).1
    have hno : ∀ e ∈ oj.after, Region.binds md e = true → e.on ≠ i := by
      intro e he hb heq
      have h2 := hall e he hb
      rw [heq] at h2
      rcases Nat.lt_or_ge i l.size with hlt | hge
      · rw [Array.getD_eq_getD_getElem?, Array.getElem?_eq_getElem hlt] at h2 hun
        simp only [Option.getD_some] at h2 hun
        rw [h2] at hun
        cases hun
      · rw [Array.getD_eq_getD_getElem?, Array.getElem?_eq_none hge] at h2
        cases h2
    refine ⟨oj, hoj, h0, ?_, hno⟩
    rintro rfl
    obtain ⟨ok, hok, e, he, hb, hon⟩ := hk
    rw [hoj] at hok
    injection hok with hok
    subst hok
    exact hno e he hb hon
  intro n
  induction n with
  | zero =>
    intro l a w hkl _ hr hy hS _ H
    refine ⟨fun h => (by rw [h] at hr; cases hr), fun j hj => ?_⟩
    by_cases hji : j = i
    · subst hji
      exact hy.wpOp hi hS ⟨fun _ => hS, H⟩
    · have := ready_mono hj hji
      rw [H.1] at this
      cases this
  | succ n ih =>
    intro l a w hkl hfree hr hy hS hQ H
    refine ⟨fun h => (by rw [h] at hr; cases hr), fun j hj => ?_⟩
    by_cases hji : j = i
    · subst hji
      exact hy.wpOp hi hS ⟨fun _ => hS, H⟩
    · obtain ⟨oj, hoj, hjun, hjk, hno⟩ := hread l j hr hj hji
      have h1 := H.2 j (ready_mono hj hji)
      have h2 := wpOp_putIf hoj (hfree j oj hoj hji hjun hno) (fun cs b => hsel i o cs b hi) (fun cs b => hsel j oj cs b hoj) hQ hy h1
      have hk' : (l.setIfInBounds j true).getD k true = false := by rw [getD_set_ne true hjk]; exact hkl
      have hk2 : ((l.setIfInBounds i true).setIfInBounds j true).getD k true = false := by rw [getD_set_ne true hjk, getD_set_ne true (Ne.symm hki)]; exact hkl
      refine wpOp_mono (fun a' w' h3 => ⟨fun _ => h3.2.1 hk2, ih (l.setIfInBounds j true) a' w' hk' ?_ (ready_mono hr (Ne.symm hji)) h3.1 (h3.2.1 hk2) hQ ?_⟩) h2
      · intro m om hm hmi hun hn
        refine hfree m om hm hmi ?_ hn
        by_cases hjm : j = m
        · subst hjm
          exact hjun
        · rwa [getD_set_ne true hjm] at hun
      · rw [Array.setIfInBounds_comm _ _ hji]
        exact h3.2.2
theorem till_take {i : Nat} {o : Oper} {v : Value} {n : Nat} {l : Array Bool} {a : Act} {w : World} (hi0 : ops.toList[i]? = some o) (hs : Region.noSelect ops = true)
    (hf : (Region.free md ops l i && (Region.ready md ops l).contains i && Region.waitsFor md ops k i && !(l.getD k true) && decide (k ≠ i)) = true)
    (hQ : ∀ c a w, Q (.panic c) (a.put o.dst v) w → Q (.panic c) a w) (hy : YieldsIf P ops S o v a) (hS : S w)
    (h : Till P md ops Q S k n (l.setIfInBounds i true) (a.put o.dst v) w) : Till P md ops Q S k (n + 1) l a w := by
  have hi : ops[i]? = some o := by rw [← hi0, Array.getElem?_toList]
  simp only [Bool.and_eq_true, decide_eq_true_eq, Bool.not_eq_true'] at hf
  obtain ⟨⟨⟨⟨h1, h2⟩, h3⟩, h4⟩, h5⟩ := hf
  exact till_first hi (Region.noSelect_spec hs) h5 (Region.waitsFor_spec h3) n l a w h4 (Region.free_spec hi h1) (by simpa using h2) hy hS hQ h
/-- one alone may come up -/
theorem till_only {i : Nat} {o : Oper} {n : Nat} {l : Array Bool} {a : Act} {w : World} (hr : Region.ready md ops l = [i]) (ho0 : ops.toList[i]? = some o)
    (hw : Region.wanted o (yielded ops a.tmps) = true)
    (h : o.wp P a w (fun a' w' => ((l.setIfInBounds i true).getD k true = false → S w') ∧ Till P md ops Q S k n (l.setIfInBounds i true) a' w') Q) : Till P md ops Q S k (n + 1) l a w := by
  have ho : ops[i]? = some o := by rw [← ho0, Array.getElem?_toList]
  refine ⟨fun h0 => (by rw [h0] at hr; cases hr), fun j hj => ?_⟩
  rw [hr] at hj
  obtain rfl : j = i := by simpa using hj
  unfold wpOp
  simp only [ho, hw, if_true]
  exact .inl h
def chainFrom (md : Region.Mode) (ops : Array Oper) : Nat → Array Bool → Nat → Bool
  | 0, l, _ => (Region.ready md ops l).isEmpty
  | c + 1, l, i => Region.ready md ops l == [i] && chainFrom md ops c (l.setIfInBounds i true) (i + 1)
/-- the last ones come up one behind the other: they are walked as a plain list -/
theorem till_chain : ∀ (rest : List Oper) (n : Nat) (l : Array Bool) (a : Act) (w : World) (i : Nat), (∀ j o, rest[j]? = some o → ops[i + j]? = some o) → chainFrom md ops rest.length l i = true →
    ((l.setIfInBounds i true).getD k true = true) → rest.length ≤ n → wpList P ops Q rest a w → Till P md ops Q S k n l a w
  | [], n, l, a, w, i, _, hc, _, _, h => by
    have h0 : Region.ready md ops l = [] := by simpa [chainFrom] using hc
    cases n with
    | zero => exact ⟨h0, h⟩
    | succ n => exact ⟨fun _ => h, fun j hj => by rw [h0] at hj; cases hj⟩
  | o :: rest, 0, l, a, w, i, _, _, _, hn, h => by simp at hn
  | o :: rest, n + 1, l, a, w, i, hops, hc, hk, hn, h => by
    simp only [List.length_cons, chainFrom, Bool.and_eq_true, beq_iff_eq] at hc
    obtain ⟨h1, h2⟩ := hc
    refine ⟨fun h0 => (by rw [h0] at h1; cases h1), fun j hj => ?_⟩
    rw [h1] at hj
    obtain rfl : j = i := by simpa using hj
    have ho : ops[j]? = some o := hops 0 o rfl
    have hw : wpOp P ops Q j (wpList P ops Q rest) a w := by
      unfold wpOp
      simp only [ho]
      unfold wpList at h
      exact h
    refine wpOp_mono (fun a' w' h' => ⟨fun e => (by rw [hk] at e; cases e), till_chain rest n _ a' w' (j + 1) (fun m om hm => ?_) h2 ?_ (by simpa using hn) h'⟩) hw
    · have := hops (m + 1) om hm
      rwa [show j + (m + 1) = j + 1 + m from by omega] at this
    · by_cases e : j + 1 = k
      · subst e
        rw [Array.getD_eq_getD_getElem?, Array.getElem?_setIfInBounds]
        by_cases hs : j + 1 < (l.setIfInBounds j true).size
        · rw [if_pos rfl, if_pos hs]
          rfl
        · rw [if_pos rfl, if_neg hs]
          rfl
      · rw [getD_set_ne true e]
        exact hk
/-- all that is owed by kernel: k comes up now, or has come up; the others behind one another -/
theorem till_tail (i : Nat) {n : Nat} {l : Array Bool} {a : Act} {w : World} (hops : ops.toList.drop i = rest) (hc : (chainFrom md ops rest.length l i && (l.setIfInBounds i true).getD k true && decide (rest.length ≤ n)) = true)
    (h : wpList P ops Q rest a w) : Till P md ops Q S k n l a w := by
  simp only [Bool.and_eq_true, decide_eq_true_eq] at hc
  refine till_chain rest n l a w i (fun j o hj => ?_) hc.1.1 hc.1.2 hc.2 h
  rw [← hops, List.getElem?_drop] at hj
  simpa using hj
theorem till_mono {S' : World → Prop} (hS : ∀ w, S' w → S w) : ∀ (n : Nat) (l : Array Bool) (a : Act) (w : World), Till P md ops Q S' k n l a w → Till P md ops Q S k n l a w
  | 0, _, _, _, h => h
  | n + 1, _, _, _, h => ⟨h.1, fun i hi => wpOp_mono (fun _ _ h' => ⟨fun e => hS _ (h'.1 e), till_mono hS n _ _ _ h'.2⟩) (h.2 i hi)⟩
/-- one alone may come up: what follows behind a letter -/
theorem till_step {i : Nat} {o : Oper} {n : Nat} {l : Array Bool} {a : Act} {w : World} (hr : Region.ready md ops l = [i]) (ho0 : ops.toList[i]? = some o) (hw : Region.wanted o (yielded ops a.tmps) = true)
    (h : ∀ K : Act → World → Prop, Shut (∀ a' w', (((l.setIfInBounds i true).getD k true = false → S w') ∧ Till P md ops Q S k n (l.setIfInBounds i true) a' w') → K a' w') → o.wp P a w K Q) : Till P md ops Q S k (n + 1) l a w :=
  till_only hr ho0 hw (h _ fun _ _ h' => h')
theorem till_done {n : Nat} {l : Array Bool} {a : Act} {w : World} (hr : Region.ready md ops l = []) (h : Q .normal a w) : Till P md ops Q S k n l a w := by
  cases n with
  | zero => exact ⟨hr, h⟩
  | succ n => exact ⟨fun _ => h, fun j hj => by rw [hr] at hj; cases hj⟩
theorem wp_region_till (S : World → Prop) (k : Nat) {id : Nat} {a : Act} {w : World} (hm : P.follows .mixedOrders = true)
    (h : Till P .any ops (NoPanic Q) S k ops.size (Array.replicate ops.size false) a w.drew) : (Code.region id ops true).wp P Q a w :=
  wp_region_noPanic (wp_region_any hm (till_any _ _ _ _ h))
theorem wp_run {o : Oper} {a : Act} {w w' : World} {K : Act → World → Prop} {v : Value} (hr : (execOp a.eval o).run P w = .ok (.value v) w') (h : K (a.put o.dst v) w') : o.wp P a w K Q := by
  unfold Oper.wp
  rw [hr]
  exact h
theorem wp_append {o : Oper} {a : Act} {w w' : World} {K : Act → World → Prop} (s x : Operand) (t : TypeId) (ho : o.op = .call { callee := .builtin .append, args := #[s, x], argTypes := #[t, t] }) {v u r : Value} (hs : a.eval s = v) (hx : a.eval x = u)
    (hr : (Builtin.append_ #[t, t] o.type #[v, u]).run P w = .ok r w') (h : K (a.put o.dst r) w') : o.wp P a w K Q := by
  unfold Oper.wp execOp
  simp only [ho, resolve, invoke, builtin, Sem.run_bind, Sem.run_pure, Result.andThen_ok, List.map_toArray, List.map_cons, List.map_nil, hs, hx, hr]
  exact h
end
end Go.Proofs.Ytkcedcllefcboaa
