/-
  A REGION THAT DRAWS ITS ORDER AND NEVER BREAKS A FACT S, INSIDE A FENCE: Alw's own text, turned. No conditions; it imports nothing of the program.
-/
import Derived.OrdersIn
import Derived.Test.YtmlkdkbpbleilaaAlw
namespace Go.Proofs.Ytmlkdkbpbleilaa
section
variable {F : Fence} {m : Nat} {P : Program} {md : Region.Mode} {ops : Array Oper} {Q Q' : Exit → Act → World → Prop} {S : World → Prop}
theorem oper_monoQ {o : Oper} {a : Act} {w : World} {K : Act → World → Prop} (hq : ∀ e a w, Q e a w → Q' e a w) (hh : o.wpIn F m P a w K Q) : o.wpIn F m P a w K Q' := by
  unfold Oper.wpIn at *
  refine ⟨hh.1, ?_⟩
  have hh := hh.2
  generalize (o.semAt F.round a.eval).run P w = r at *
  cases r with
  | ok x w' =>
    cases x <;> simp only [Oper.uponIn] at hh ⊢ <;>
      first
        | exact hh
        | exact ⟨hh.1, CallsIn.mono hh.2 (fun e w'' he => by cases e <;> first | exact he | exact hq _ _ _ he | exact (let ⟨a, w, h⟩ := he; ⟨a, w, hq _ _ _ h⟩))⟩
        | exact ⟨hh.1, RoundIn.mono hh.2 (fun e w'' he => by cases e <;> first | exact he | exact hq _ _ _ he | exact (let ⟨a, w, h⟩ := he; ⟨a, w, hq _ _ _ h⟩))⟩
  | halt x w' => cases x <;> simp only [Oper.uponIn] at hh ⊢ <;> exact hq _ _ _ hh
theorem wpOpIn_monoQ {i : Nat} {a : Act} {w : World} {K : Act → World → Prop} (hq : ∀ e a w, Q e a w → Q' e a w) (hh : wpOpIn F m P ops Q i K a w) : wpOpIn F m P ops Q' i K a w := by
  unfold wpOpIn at *
  split
  · exact by simpa [*] using hh
  · rename_i o ho
    simp only [ho] at hh
    split
    · rename_i hw; simp only [hw, if_true] at hh; exact oper_monoQ hq hh
    · rename_i hw; simp only [hw] at hh; exact hh
/-- what o yields where S holds, and it is about to make no call -/
def YIn (P : Program) (ops : Array Oper) (S : World → Prop) (o : Oper) (v : Value) (a : Act) : Prop := YieldsIf P ops S o v a ∧ ∀ w, o.about P w a.eval = none
theorem YIn.of_same {o : Oper} {v : Value} {a a' : Act} (hy : YIn P ops S o v a) (he : execOp a'.eval o = execOp a.eval o)
    (hw : Region.wanted o (yielded ops a'.tmps) = Region.wanted o (yielded ops a.tmps)) (hb : ∀ w, o.about P w a'.eval = o.about P w a.eval) : YIn P ops S o v a' :=
  ⟨hy.1.of_same he hw, fun w => by rw [hb w]; exact hy.2 w⟩
theorem YIn.wpOpIn {i : Nat} {o : Oper} {v : Value} {a : Act} (hro : F.round = none) (hi : ops[i]? = some o) (hy : YIn P ops S o v a)
    {K : Act → World → Prop} {w : World} (hS : S w) (h : K (a.put o.dst v) w) : wpOpIn F m P ops Q i K a w := by
  unfold Go.wpOpIn
  simp only [hi]
  have hab : ∀ f, o.about P w a.eval = some f → F.fn f := fun f hf => by rw [hy.2 w] at hf; cases hf
  rcases hy.1 with ⟨hw, hv⟩ | ⟨hw, rfl⟩
  · simp only [hw, if_true, Oper.wpIn, hro, Oper.semAt_none, hv w hS, Oper.uponIn]; exact ⟨hab, h⟩
  · simp only [hw, Bool.false_eq_true, if_false]; exact ⟨hab, h⟩
theorem wpOpIn_putY {j : Nat} {oi oj : Oper} {v : Value} (hro : F.round = none) (hj : ops[j]? = some oj) (hap : oi.apart ops oj = true)
    (hsi : ∀ cs b, oi.op ≠ .select cs b) (hsj : ∀ cs b, oj.op ≠ .select cs b)
    (hQ : ∀ c a w, Q (.panic c) (a.put oi.dst v) w → Q (.panic c) a w) {K : Act → World → Prop} {a : Act} {w : World}
    (hy : YIn P ops S oi v a) (h : wpOpIn F m P ops Q j K (a.put oi.dst v) w) :
    wpOpIn F m P ops Q j (fun a' w' => YIn P ops S oi v a' ∧ K (a'.put oi.dst v) w') a w := by
  obtain ⟨h1, h2, h3⟩ := Oper.apart_spec hap
  have keep : ∀ (a : Act), YIn P ops S oi v a → ∀ u, YIn P ops S oi v (a.put oj.dst u) := fun a hy u =>
    hy.of_same (execOp_put oi hsi a oj.dst u h3) (wanted_put oi a oj.dst u h3) (fun w => about_put oi w a oj.dst u h3)
  have keepD : ∀ d, YIn P ops S oi v { a with defers := d :: a.defers } := fun d => hy.of_same rfl rfl (fun _ => rfl)
  unfold wpOpIn at *
  simp only [hj] at *
  rw [wanted_put oj a oi.dst v h1, about_put oj w a oi.dst v h1] at h
  split
  · rename_i hw
    simp only [hw, if_true] at h
    unfold Oper.wpIn at *
    rw [about_put oj w a oi.dst v h1] at h
    refine ⟨h.1, ?_⟩
    have h := h.2
    rw [hro, Oper.semAt_none, execOp_put oj hsj a oi.dst v h1] at h
    rw [hro, Oper.semAt_none]
    generalize (execOp a.eval oj).run P w = r at *
    cases r with
    | ok x w' =>
      cases x <;> simp only [Oper.uponIn] at h ⊢
      case value u => exact ⟨keep a hy u, by rw [← Act.put_comm a v u h2]; exact h⟩
      case skip => exact ⟨keep a hy _, by rw [← Act.put_comm a v undef h2]; exact h⟩
      case defer d =>
        refine ⟨keep _ (keepD d) _, ?_⟩
        rw [← Act.put_comm _ v undef h2, ← Act.put_defers]
        exact h
      case enter f args =>
        refine ⟨h.1, CallsIn.mono h.2 fun e w'' he => ?_⟩
        cases e with
        | returned u => exact ⟨keep a hy u, by rw [← Act.put_comm a v u h2]; exact he⟩
        | panicked c => exact hQ _ _ _ he
        | outgrown => exact he
      case row row args => exact ⟨h.1, RowsIn.mono h.2 fun u w'' he => ⟨keep a hy u, by rw [← Act.put_comm a v u h2]; exact he⟩⟩
      case round l f tmps assign body =>
        refine ⟨h.1, RoundIn.mono h.2 fun e w'' he => ?_⟩
        cases e with
        | returned u => exact ⟨keep a hy u, by rw [← Act.put_comm a v u h2]; exact he⟩
        | panicked c => exact hQ _ _ _ he
        | outgrown => exact he
    | halt x w' =>
      cases x <;> simp only [Oper.uponIn] at h ⊢
      case panic u => exact hQ _ _ _ h
  · rename_i hw
    simp only [hw] at h
    exact ⟨h.1, keep a hy _, by rw [← Act.put_comm a v undef h2]; exact h.2⟩
/-- whatever order is picked, and S holds behind each operation -/
def AlwI (F : Fence) (m : Nat) (P : Program) (md : Region.Mode) (ops : Array Oper) (Q : Exit → Act → World → Prop) (S : World → Prop) : Nat → Array Bool → Act → World → Prop
  | 0, l, a, w => Region.ready md ops l = [] ∧ Q .normal a w
  | n + 1, l, a, w => (Region.ready md ops l = [] → Q .normal a w) ∧
      ∀ i ∈ Region.ready md ops l, wpOpIn F m P ops Q i (fun a' w' => S w' ∧ AlwI F m P md ops Q S n (l.setIfInBounds i true) a' w') a w
theorem alwI_any (hq : ∀ e a w, Q e a w → Q' e a w) : ∀ (n : Nat) (l : Array Bool) (a : Act) (w : World), AlwI F m P md ops Q S n l a w → wpAnyIn F m P md ops Q' n l a w
  | 0, _, _, _, h => ⟨h.1, hq _ _ _ h.2⟩
  | n + 1, _, _, _, h => ⟨fun h0 => hq _ _ _ (h.1 h0), fun i hi => wpOpIn_monoQ hq (wpOpIn_mono (fun _ _ h' => alwI_any hq n _ _ _ h'.2) (h.2 i hi))⟩
theorem alwI_first {i : Nat} {o : Oper} {v : Value} (hro : F.round = none) (hi : ops[i]? = some o) (hsel : ∀ (j : Nat) (o : Oper) cs b, ops[j]? = some o → o.op ≠ .select cs b) :
    ∀ (n : Nat) (l : Array Bool) (a : Act) (w : World),
      (∀ j oj, ops[j]? = some oj → j ≠ i → l.getD j true = false → (∀ e ∈ oj.after, Region.binds md e = true → e.on ≠ i) → o.apart ops oj = true) →
      i ∈ Region.ready md ops l → YIn P ops S o v a → S w → (∀ c a w, Q (.panic c) (a.put o.dst v) w → Q (.panic c) a w) →
      AlwI F m P md ops Q S n (l.setIfInBounds i true) (a.put o.dst v) w → AlwI F m P md ops Q S (n + 1) l a w := by
  have hread : ∀ (l : Array Bool) (j : Nat), i ∈ Region.ready md ops l → j ∈ Region.ready md ops l → j ≠ i → ∃ oj, ops[j]? = some oj ∧ l.getD j true = false ∧ ∀ e ∈ oj.after, Region.binds md e = true → e.on ≠ i := by
    intro l j hr hj hji
    obtain ⟨h0, oj, hoj, hall⟩ := mem_ready.1 hj
    have hun := (mem_ready.1 hr).1
    refine ⟨oj, hoj, h0, fun e he hb heq => ?_⟩
    have h2 := hall e he hb
    rw [heq] at h2
    rcases Nat.lt_or_ge i l.size with hlt | hge
    · rw [Array.getD_eq_getD_getElem?, Array.getElem?_eq_getElem hlt] at h2 hun
      simp only [Option.getD_some] at h2 hun
      rw [h2] at hun
      cases hun
    · rw [Array.getD_eq_getD_getElem?, Array.getElem?_eq_none hge] at h2
      cases h2
  intro n
  induction n with
  | zero =>
    intro l a w _ hr hy hS _ H
    refine ⟨fun h => (by rw [h] at hr; cases hr), fun j hj => ?_⟩
    by_cases hji : j = i
    · subst hji
      exact hy.wpOpIn hro hi hS ⟨hS, H⟩
    · have := ready_mono hj hji
      rw [H.1] at this
      cases this
  | succ n ih =>
    intro l a w hfree hr hy hS hQ H
    refine ⟨fun h => (by rw [h] at hr; cases hr), fun j hj => ?_⟩
    by_cases hji : j = i
    · subst hji
      exact hy.wpOpIn hro hi hS ⟨hS, H⟩
    · obtain ⟨oj, hoj, hjun, hno⟩ := hread l j hr hj hji
      have h1 := H.2 j (ready_mono hj hji)
      have h2 := wpOpIn_putY hro hoj (hfree j oj hoj hji hjun hno) (fun cs b => hsel i o cs b hi) (fun cs b => hsel j oj cs b hoj) hQ hy h1
      refine wpOpIn_mono (fun a' w' h3 => ⟨h3.2.1, ih (l.setIfInBounds j true) a' w' ?_ (ready_mono hr (Ne.symm hji)) h3.1 h3.2.1 hQ ?_⟩) h2
      · intro m2 om hm hmi hun hn
        refine hfree m2 om hm hmi ?_ hn
        by_cases hjm : j = m2
        · subst hjm
          exact hjun
        · rwa [getD_set_ne true hjm] at hun
      · rw [Array.setIfInBounds_comm _ _ hji]
        exact h3.2.2
theorem alwI_take {i : Nat} {o : Oper} {v : Value} {n : Nat} {l : Array Bool} {a : Act} {w : World} (hro : F.round = none) (hi0 : ops.toList[i]? = some o) (hs : Region.noSelect ops = true)
    (hf : (Region.free md ops l i && (Region.ready md ops l).contains i) = true)
    (hQ : ∀ c a w, Q (.panic c) (a.put o.dst v) w → Q (.panic c) a w) (hy : YieldsIf P ops S o v a) (hab : ∀ w, o.about P w a.eval = none) (hS : S w)
    (h : AlwI F m P md ops Q S n (l.setIfInBounds i true) (a.put o.dst v) w) : AlwI F m P md ops Q S (n + 1) l a w := by
  have hi : ops[i]? = some o := by rw [← hi0, Array.getElem?_toList]
  simp only [Bool.and_eq_true] at hf
  exact alwI_first hro hi (Region.noSelect_spec hs) n l a w (Region.free_spec hi hf.1) (by simpa using hf.2) ⟨hy, hab⟩ hS hQ h
theorem alwI_step {i : Nat} {o : Oper} {n : Nat} {l : Array Bool} {a : Act} {w : World} (hr : Region.ready md ops l = [i]) (ho0 : ops.toList[i]? = some o) (hw : Region.wanted o (yielded ops a.tmps) = true)
    (h : ∀ K : Act → World → Prop, Shut (∀ a' w', (S w' ∧ AlwI F m P md ops Q S n (l.setIfInBounds i true) a' w') → K a' w') → o.wpIn F m P a w K Q) : AlwI F m P md ops Q S (n + 1) l a w := by
  have ho : ops[i]? = some o := by rw [← ho0, Array.getElem?_toList]
  refine ⟨fun h0 => (by rw [h0] at hr; cases hr), fun j hj => ?_⟩
  rw [hr] at hj
  obtain rfl : j = i := by simpa using hj
  unfold wpOpIn
  simp only [ho, hw, if_true]
  exact h _ fun _ _ h' => h'
theorem alwI_done {n : Nat} {l : Array Bool} {a : Act} {w : World} (hr : Region.ready md ops l = []) (h : Q .normal a w) : AlwI F m P md ops Q S n l a w := by
  cases n with
  | zero => exact ⟨hr, h⟩
  | succ n => exact ⟨fun _ => h, fun j hj => by rw [hr] at hj; cases hj⟩
theorem wpIn_region_alw (S : World → Prop) {id : Nat} {a : Act} {w : World} (hm : P.follows .mixedOrders = true)
    (h : AlwI F m P .any ops (NoPanic Q) S ops.size (Array.replicate ops.size false) a w.drew) : (Code.region id ops true).wpIn F m P Q a w :=
  wpIn_region_any hm (alwI_any NoPanic.imp _ _ _ _ h)
/-- whatever order is picked, and S holds as long as k has not come up -/
def TillI (F : Fence) (m : Nat) (P : Program) (md : Region.Mode) (ops : Array Oper) (Q : Exit → Act → World → Prop) (S : World → Prop) (k : Nat) : Nat → Array Bool → Act → World → Prop
  | 0, l, a, w => Region.ready md ops l = [] ∧ Q .normal a w
  | n + 1, l, a, w => (Region.ready md ops l = [] → Q .normal a w) ∧
      ∀ i ∈ Region.ready md ops l, wpOpIn F m P ops Q i (fun a' w' => ((l.setIfInBounds i true).getD k true = false → S w') ∧ TillI F m P md ops Q S k n (l.setIfInBounds i true) a' w') a w
theorem tillI_any {k : Nat} (hq : ∀ e a w, Q e a w → Q' e a w) : ∀ (n : Nat) (l : Array Bool) (a : Act) (w : World), TillI F m P md ops Q S k n l a w → wpAnyIn F m P md ops Q' n l a w
  | 0, _, _, _, h => ⟨h.1, hq _ _ _ h.2⟩
  | n + 1, _, _, _, h => ⟨fun h0 => hq _ _ _ (h.1 h0), fun i hi => wpOpIn_monoQ hq (wpOpIn_mono (fun _ _ h' => tillI_any hq n _ _ _ h'.2) (h.2 i hi))⟩
theorem tillI_of_alw {S' : World → Prop} {k : Nat} : ∀ (n : Nat) (l : Array Bool) (a : Act) (w : World), l.getD k true = true → AlwI F m P md ops Q S' n l a w → TillI F m P md ops Q S k n l a w
  | 0, _, _, _, _, h => h
  | n + 1, l, _, _, hk, h => ⟨h.1, fun i hi => wpOpIn_mono (fun _ _ h' => by
      have hk2 : (l.setIfInBounds i true).getD k true = true := by
        by_cases e : i = k
        · subst e
          rw [Array.getD_eq_getD_getElem?, Array.getElem?_setIfInBounds, if_pos rfl]
          split <;> rfl
        · rw [getD_set_ne true e]
          exact hk
      exact ⟨fun e => (by rw [hk2] at e; cases e), tillI_of_alw n _ _ _ hk2 h'.2⟩) (h.2 i hi)⟩
theorem tillI_first {k i : Nat} {o : Oper} {v : Value} (hro : F.round = none) (hi : ops[i]? = some o) (hsel : ∀ (j : Nat) (o : Oper) cs b, ops[j]? = some o → o.op ≠ .select cs b) (hki : k ≠ i)
    (hk : ∃ ok, ops[k]? = some ok ∧ ∃ e ∈ ok.after, Region.binds md e = true ∧ e.on = i) :
    ∀ (n : Nat) (l : Array Bool) (a : Act) (w : World), l.getD k true = false →
      (∀ j oj, ops[j]? = some oj → j ≠ i → l.getD j true = false → (∀ e ∈ oj.after, Region.binds md e = true → e.on ≠ i) → o.apart ops oj = true) →
      i ∈ Region.ready md ops l → YIn P ops S o v a → S w → (∀ c a w, Q (.panic c) (a.put o.dst v) w → Q (.panic c) a w) →
      TillI F m P md ops Q S k n (l.setIfInBounds i true) (a.put o.dst v) w → TillI F m P md ops Q S k (n + 1) l a w := by
  have hread : ∀ (l : Array Bool) (j : Nat), i ∈ Region.ready md ops l → j ∈ Region.ready md ops l → j ≠ i → ∃ oj, ops[j]? = some oj ∧ l.getD j true = false ∧ j ≠ k ∧ ∀ e ∈ oj.after, Region.binds md e = true → e.on ≠ i := by
    intro l j hr hj hji
    obtain ⟨h0, oj, hoj, hall⟩ := mem_ready.1 hj
    have hun := (mem_ready.1 hr).1
    have hno : ∀ e ∈ oj.after, Region.binds md e = true → e.on ≠ i := by
      intro e he hb heq
      have h2 := hall e he hb
      rw [heq] at h2
      rcases Nat.lt_or_ge i l.size with hlt | hge
      · rw [Array.getD_eq_getD_getElem?, Array.getElem?_eq_getElem hlt] at h2 hun
        simp only [Option.getD_some] at h2 hun
        rw [h2] at hun
        cases hun
      · rw [Array.getD_eq_getD_getElem?, Array.getElem?_eq_none hge] at h2
        cases h2
    refine ⟨oj, hoj, h0, ?_, hno⟩
    rintro rfl
    obtain ⟨ok, hok, e, he, hb, hon⟩ := hk
    rw [hoj] at hok
    injection hok with hok
    subst hok
    exact hno e he hb hon
  intro n
  induction n with
  | zero =>
    intro l a w hkl _ hr hy hS _ H
    refine ⟨fun h => (by rw [h] at hr; cases hr), fun j hj => ?_⟩
    by_cases hji : j = i
    · subst hji
      exact hy.wpOpIn hro hi hS ⟨fun _ => hS, H⟩
    · have := ready_mono hj hji
      rw [H.1] at this
      cases this
  | succ n ih =>
    intro l a w hkl hfree hr hy hS hQ H
    refine ⟨fun h => (by rw [h] at hr; cases hr), fun j hj => ?_⟩
    by_cases hji : j = i
    · subst hji
      exact hy.wpOpIn hro hi hS ⟨fun _ => hS, H⟩
    · obtain ⟨oj, hoj, hjun, hjk, hno⟩ := hread l j hr hj hji
      have h1 := H.2 j (ready_mono hj hji)
      have h2 := wpOpIn_putY hro hoj (hfree j oj hoj hji hjun hno) (fun cs b => hsel i o cs b hi) (fun cs b => hsel j oj cs b hoj) hQ hy h1
      have hk' : (l.setIfInBounds j true).getD k true = false := by rw [getD_set_ne true hjk]; exact hkl
      have hk2 : ((l.setIfInBounds i true).setIfInBounds j true).getD k true = false := by rw [getD_set_ne true hjk, getD_set_ne true (Ne.symm hki)]; exact hkl
      refine wpOpIn_mono (fun a' w' h3 => ⟨fun _ => h3.2.1 hk2, ih (l.setIfInBounds j true) a' w' hk' ?_ (ready_mono hr (Ne.symm hji)) h3.1 (h3.2.1 hk2) hQ ?_⟩) h2
      · intro m2 om hm hmi hun hn
        refine hfree m2 om hm hmi ?_ hn
        by_cases hjm : j = m2
        · subst hjm
          exact hjun
        · rwa [getD_set_ne true hjm] at hun
      · rw [Array.setIfInBounds_comm _ _ hji]
        exact h3.2.2
theorem tillI_take {k i : Nat} {o : Oper} {v : Value} {n : Nat} {l : Array Bool} {a : Act} {w : World} (hro : F.round = none) (hi0 : ops.toList[i]? = some o) (hs : Region.noSelect ops = true)
    (hf : (Region.free md ops l i && (Region.ready md ops l).contains i && Region.waitsFor md ops k i && !(l.getD k true) && decide (k ≠ i)) = true)
    (hQ : ∀ c a w, Q (.panic c) (a.put o.dst v) w → Q (.panic c) a w) (hy : YieldsIf P ops S o v a) (hab : ∀ w, o.about P w a.eval = none) (hS : S w)
    (h : TillI F m P md ops Q S k n (l.setIfInBounds i true) (a.put o.dst v) w) : TillI F m P md ops Q S k (n + 1) l a w := by
  have hi : ops[i]? = some o := by rw [← hi0, Array.getElem?_toList]
  simp only [Bool.and_eq_true, decide_eq_true_eq, Bool.not_eq_true'] at hf
  obtain ⟨⟨⟨⟨h1, h2⟩, h3⟩, h4⟩, h5⟩ := hf
  exact tillI_first hro hi (Region.noSelect_spec hs) h5 (Region.waitsFor_spec h3) n l a w h4 (Region.free_spec hi h1) (by simpa using h2) ⟨hy, hab⟩ hS hQ h
theorem tillI_step {k i : Nat} {o : Oper} {n : Nat} {l : Array Bool} {a : Act} {w : World} (hr : Region.ready md ops l = [i]) (ho0 : ops.toList[i]? = some o) (hw : Region.wanted o (yielded ops a.tmps) = true)
    (h : ∀ K : Act → World → Prop, Shut (∀ a' w', (((l.setIfInBounds i true).getD k true = false → S w') ∧ TillI F m P md ops Q S k n (l.setIfInBounds i true) a' w') → K a' w') → o.wpIn F m P a w K Q) : TillI F m P md ops Q S k (n + 1) l a w := by
  have ho : ops[i]? = some o := by rw [← ho0, Array.getElem?_toList]
  refine ⟨fun h0 => (by rw [h0] at hr; cases hr), fun j hj => ?_⟩
  rw [hr] at hj
  obtain rfl : j = i := by simpa using hj
  unfold wpOpIn
  simp only [ho, hw, if_true]
  exact h _ fun _ _ h' => h'
theorem wpIn_region_till (S : World → Prop) (k : Nat) {id : Nat} {a : Act} {w : World} (hm : P.follows .mixedOrders = true)
    (h : TillI F m P .any ops (NoPanic Q) S k ops.size (Array.replicate ops.size false) a w.drew) : (Code.region id ops true).wpIn F m P Q a w :=
  wpIn_region_any hm (tillI_any NoPanic.imp _ _ _ _ h)
theorem tillI_pureAt {k i : Nat} {o : Oper} {v : Value} (hro : F.round = none) (hi : ops[i]? = some o) (hsel : ∀ (j : Nat) (o : Oper) cs b, ops[j]? = some o → o.op ≠ .select cs b) (hki : k ≠ i) :
    ∀ (n : Nat) (l : Array Bool) (a : Act) (w : World), 
      (∀ j oj, ops[j]? = some oj → j ≠ i → l.getD j true = false → (∀ e ∈ oj.after, Region.binds md e = true → e.on ≠ i) → o.apart ops oj = true) →
      i ∈ Region.ready md ops l → YIn P ops (fun _ => True) o v a → (l.getD k true = false → S w) → (∀ c a w, Q (.panic c) (a.put o.dst v) w → Q (.panic c) a w) →
      TillI F m P md ops Q S k n (l.setIfInBounds i true) (a.put o.dst v) w → TillI F m P md ops Q S k (n + 1) l a w := by
  have hread : ∀ (l : Array Bool) (j : Nat), i ∈ Region.ready md ops l → j ∈ Region.ready md ops l → j ≠ i → ∃ oj, ops[j]? = some oj ∧ l.getD j true = false ∧ ∀ e ∈ oj.after, Region.binds md e = true → e.on ≠ i := by
    intro l j hr hj hji
    obtain ⟨h0, oj, hoj, hall⟩ := mem_ready.1 hj
    have hun := (mem_ready.1 hr).1
    refine ⟨oj, hoj, h0, fun e he hb heq => ?_⟩
    have h2 := hall e he hb
    rw [heq] at h2
    rcases Nat.lt_or_ge i l.size with hlt | hge
    · rw [Array.getD_eq_getD_getElem?, Array.getElem?_eq_getElem hlt] at h2 hun
      simp only [Option.getD_some] at h2 hun
      rw [h2] at hun
      cases hun
    · rw [Array.getD_eq_getD_getElem?, Array.getElem?_eq_none hge] at h2
      cases h2
  intro n
  induction n with
  | zero =>
    intro l a w _ hr hy hS _ H
    refine ⟨fun h => (by rw [h] at hr; cases hr), fun j hj => ?_⟩
    by_cases hji : j = i
    · subst hji
      exact hy.wpOpIn hro hi trivial ⟨fun e => hS (by rwa [getD_set_ne true hki.symm] at e), H⟩
    · have := ready_mono hj hji
      rw [H.1] at this
      cases this
  | succ n ih =>
    intro l a w hfree hr hy hS hQ H
    refine ⟨fun h => (by rw [h] at hr; cases hr), fun j hj => ?_⟩
    by_cases hji : j = i
    · subst hji
      exact hy.wpOpIn hro hi trivial ⟨fun e => hS (by rwa [getD_set_ne true hki.symm] at e), H⟩
    · obtain ⟨oj, hoj, hjun, hno⟩ := hread l j hr hj hji
      have h1 := H.2 j (ready_mono hj hji)
      have h2 := wpOpIn_putY hro (S := fun _ => True) hoj (hfree j oj hoj hji hjun hno) (fun cs b => hsel i o cs b hi) (fun cs b => hsel j oj cs b hoj) hQ hy h1
      refine wpOpIn_mono (fun a' w' h3 => ⟨fun e => ?_, ih (l.setIfInBounds j true) a' w' ?_ (ready_mono hr (Ne.symm hji)) h3.1 (fun e => ?_) hQ ?_⟩) h2
      · exact h3.2.1 (by rw [Array.setIfInBounds_comm _ _ (Ne.symm hji), getD_set_ne true hki.symm]; exact e)
      · intro m2 om hm hmi hun hn
        refine hfree m2 om hm hmi ?_ hn
        by_cases hjm : j = m2
        · subst hjm
          exact hjun
        · rwa [getD_set_ne true hjm] at hun
      · exact h3.2.1 (by rw [Array.setIfInBounds_comm _ _ (Ne.symm hji), getD_set_ne true hki.symm]; exact e)
      · rw [Array.setIfInBounds_comm _ _ hji]
        exact h3.2.2
theorem tillI_pure {k i : Nat} {o : Oper} {v : Value} {n : Nat} {l : Array Bool} {a : Act} {w : World} (hro : F.round = none) (hi0 : ops.toList[i]? = some o) (hs : Region.noSelect ops = true)
    (hf : (Region.free md ops l i && (Region.ready md ops l).contains i && decide (k ≠ i)) = true)
    (hQ : ∀ c a w, Q (.panic c) (a.put o.dst v) w → Q (.panic c) a w) (hy : YieldsIf P ops (fun _ => True) o v a) (hab : ∀ w, o.about P w a.eval = none) (hS : S w)
    (h : TillI F m P md ops Q S k n (l.setIfInBounds i true) (a.put o.dst v) w) : TillI F m P md ops Q S k (n + 1) l a w := by
  have hi : ops[i]? = some o := by rw [← hi0, Array.getElem?_toList]
  simp only [Bool.and_eq_true, decide_eq_true_eq] at hf
  obtain ⟨⟨h1, h2⟩, h5⟩ := hf
  exact tillI_pureAt hro hi (Region.noSelect_spec hs) h5 n l a w (Region.free_spec hi h1) (by simpa using h2) ⟨hy, hab⟩ (fun _ => hS) hQ h
theorem tillI_firstL {k i : Nat} {ms : List Nat} {o : Oper} {v : Value} (hro : F.round = none) (hi : ops[i]? = some o) (hsel : ∀ (j : Nat) (o : Oper) cs b, ops[j]? = some o → o.op ≠ .select cs b) (hki : k ∈ ms) (hni : ∀ m ∈ ms, m ≠ i)
    (hk : ∀ m ∈ ms, ∃ b ∈ i :: ms, ∃ om, ops[m]? = some om ∧ ∃ e ∈ om.after, Region.binds md e = true ∧ e.on = b) :
    ∀ (n : Nat) (l : Array Bool) (a : Act) (w : World), (∀ m ∈ ms, l.getD m true = false) →
      (∀ j oj, ops[j]? = some oj → j ≠ i → l.getD j true = false → (∀ e ∈ oj.after, Region.binds md e = true → e.on ≠ i) → o.apart ops oj = true) →
      i ∈ Region.ready md ops l → YIn P ops S o v a → S w → (∀ c a w, Q (.panic c) (a.put o.dst v) w → Q (.panic c) a w) →
      TillI F m P md ops Q S k n (l.setIfInBounds i true) (a.put o.dst v) w → TillI F m P md ops Q S k (n + 1) l a w := by
  have hread : ∀ (l : Array Bool) (j : Nat), (∀ m ∈ ms, l.getD m true = false) → i ∈ Region.ready md ops l → j ∈ Region.ready md ops l → j ≠ i → ∃ oj, ops[j]? = some oj ∧ l.getD j true = false ∧ (∀ m ∈ ms, j ≠ m) ∧ ∀ e ∈ oj.after, Region.binds md e = true → e.on ≠ i := by
    intro l j hl hr hj hji
    obtain ⟨h0, oj, hoj, hall⟩ := mem_ready.1 hj
    have hun := (mem_ready.1 hr).1
    have hno : ∀ b, l.getD b true = false → ∀ e ∈ oj.after, Region.binds md e = true → e.on ≠ b := by
      intro b hb0 e he hb heq
      have h2 := hall e he hb
      rw [heq] at h2
      rcases Nat.lt_or_ge b l.size with hlt | hge
      · rw [Array.getD_eq_getD_getElem?, Array.getElem?_eq_getElem hlt] at h2 hb0
        simp only [Option.getD_some] at h2 hb0
        rw [h2] at hb0
        cases hb0
      · rw [Array.getD_eq_getD_getElem?, Array.getElem?_eq_none hge] at h2
        cases h2
    refine ⟨oj, hoj, h0, ?_, hno i hun⟩
    rintro m hm rfl
    obtain ⟨b, hb, ok, hok, e, he, hb2, hon⟩ := hk j hm
    rw [hoj] at hok
    injection hok with hok
    subst hok
    refine hno b ?_ e he hb2 hon
    rcases List.mem_cons.1 hb with rfl | hb
    · exact hun
    · exact hl b hb
  intro n
  induction n with
  | zero =>
    intro l a w hkl _ hr hy hS _ H
    refine ⟨fun h => (by rw [h] at hr; cases hr), fun j hj => ?_⟩
    by_cases hji : j = i
    · subst hji
      exact hy.wpOpIn hro hi hS ⟨fun _ => hS, H⟩
    · have := ready_mono hj hji
      rw [H.1] at this
      cases this
  | succ n ih =>
    intro l a w hkl hfree hr hy hS hQ H
    refine ⟨fun h => (by rw [h] at hr; cases hr), fun j hj => ?_⟩
    by_cases hji : j = i
    · subst hji
      exact hy.wpOpIn hro hi hS ⟨fun _ => hS, H⟩
    · obtain ⟨oj, hoj, hjun, hjk, hno⟩ := hread l j hkl hr hj hji
      have h1 := H.2 j (ready_mono hj hji)
      have h2 := wpOpIn_putY hro hoj (hfree j oj hoj hji hjun hno) (fun cs b => hsel i o cs b hi) (fun cs b => hsel j oj cs b hoj) hQ hy h1
      have hk' : ∀ m ∈ ms, (l.setIfInBounds j true).getD m true = false := fun m hm => by rw [getD_set_ne true (hjk m hm)]; exact hkl m hm
      have hk2 : ((l.setIfInBounds i true).setIfInBounds j true).getD k true = false := by rw [getD_set_ne true (hjk k hki), getD_set_ne true (Ne.symm (hni k hki))]; exact hkl k hki
      refine wpOpIn_mono (fun a' w' h3 => ⟨fun _ => h3.2.1 hk2, ih (l.setIfInBounds j true) a' w' hk' ?_ (ready_mono hr (Ne.symm hji)) h3.1 (h3.2.1 hk2) hQ ?_⟩) h2
      · intro m2 om hm hmi hun hn
        refine hfree m2 om hm hmi ?_ hn
        by_cases hjm : j = m2
        · subst hjm
          exact hjun
        · rwa [getD_set_ne true hjm] at hun
      · rw [Array.setIfInBounds_comm _ _ hji]
        exact h3.2.2
theorem tillI_takeL (ms : List Nat) {k i : Nat} {o : Oper} {v : Value} {n : Nat} {l : Array Bool} {a : Act} {w : World} (hro : F.round = none) (hi0 : ops.toList[i]? = some o) (hs : Region.noSelect ops = true)
    (hf : (Region.free md ops l i && (Region.ready md ops l).contains i && ms.contains k && ms.all fun m => !(l.getD m true) && m != i && (i :: ms).any fun b => Region.waitsFor md ops m b) = true)
    (hQ : ∀ c a w, Q (.panic c) (a.put o.dst v) w → Q (.panic c) a w) (hy : YieldsIf P ops S o v a) (hab : ∀ w, o.about P w a.eval = none) (hS : S w)
    (h : TillI F m P md ops Q S k n (l.setIfInBounds i true) (a.put o.dst v) w) : TillI F m P md ops Q S k (n + 1) l a w := by
  have hi : ops[i]? = some o := by rw [← hi0, Array.getElem?_toList]
  simp only [Bool.and_eq_true, List.all_eq_true, Bool.not_eq_true', bne_iff_ne, List.any_eq_true] at hf
  obtain ⟨⟨⟨h1, h2⟩, h3⟩, h4⟩ := hf
  exact tillI_firstL (ms := ms) hro hi (Region.noSelect_spec hs) (by simpa using h3) (fun m hm => (h4 m hm).1.2)
    (fun m hm => by obtain ⟨b, hb, hw⟩ := (h4 m hm).2; exact ⟨b, hb, Region.waitsFor_spec hw⟩) n l a w (fun m hm => (h4 m hm).1.1) (Region.free_spec hi h1) (by simpa using h2) ⟨hy, hab⟩ hS hQ h
end
end Go.Proofs.Ytmlkdkbpbleilaa
