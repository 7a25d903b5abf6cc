/-
  Two of saf's queues and two of the reference's, side by side. No conditions.
-/
import Derived.Test.YtkcedcllefcboaaSfN
namespace Go.Proofs.Ytkcedcllefcboaa
open Go.RowKit
set_option linter.unusedVariables false
set_option linter.unusedSimpArgs false
set_option maxRecDepth 20000
def tnm : Option Adv → List UInt8 | some x => x.1 | none => []
def tty : Option Adv → Int | some x => x.2.1 | none => 0
def tfs : Option Adv → List Fld | some x => x.2.2 | none => []
/-- what Send or Again tells, in one form -/
def TellN (w : World) (o : Option Adv) (e : Ending) (w' : World) : Prop := ∃ A c, e = .returned (.tuple #[strV (tnm o), .agg #[.int .i64 (tty o), .slice A (tfs o).length c], .bool o.isSome]) ∧ Fr w' w.heap.size (.slice A (tfs o).length c) (tfs o)
def RTellN (o : Option Adv) (e : Ending) (w' : World) : Prop := ∃ A c, e = .returned (.tuple #[strV (tnm o), .agg #[.int .i64 (tty o), .slice A (tfs o).length c], .bool o.isSome]) ∧ Fr w' 0 (.slice A (tfs o).length c) (tfs o) ∧ (tfs o).length * 24 ≤ 140737488355328
theorem TellE.n {w w' : World} {o : Option Adv} {e : Ending} (h : TellE w o e w') : TellN w o e w' := by
  cases o with
  | none => exact ⟨none, 0, h, Orw.nil _ _ _ _⟩
  | some x =>
    obtain ⟨g, h1, h2, h3⟩ := h
    exact ⟨_, _, h1, h3⟩
theorem RTellE.n {Z : Nat → Prop} {w' : World} {o : Option Adv} {e : Ending} (h : RTellE Z o e w') : RTellN o e w' := by
  cases o with
  | none => exact ⟨none, 0, h, Orw.nil _ _ _ _, by show 0 * 24 ≤ _; omega⟩
  | some x =>
    obtain ⟨A, c, h1, h2, h3⟩ := h
    exact ⟨A, c, h1, h2, h3⟩
abbrev Qs := List Adv × Bool
/-- x, z: queues; y, u: the reference's; all newer than w0 -/
structure Fo (w0 w : World) (Z : Nat → Prop) (x : Nat) (gx : Option Nat) (z : Nat) (gz : Option Nat) (y u m : Nat) (a b c d : Qs) : Prop where
  qx : Que w Z x gx m a.1 a.2
  qz : Que w Z z gz m b.1 b.2
  ry : RQue w Z y m c.1 c.2
  ru : RQue w Z u m d.1 d.2
  xz : x ≠ z
  yu : y ≠ u
  gg : ∀ k, gx = some k → gz = some k → False
  nw : w0.heap.size ≤ x ∧ w0.heap.size ≤ z ∧ w0.heap.size ≤ y ∧ w0.heap.size ≤ u ∧ (∀ k, gx = some k → w0.heap.size ≤ k) ∧ ∀ k, gz = some k → w0.heap.size ≤ k
  tn : Turn nowhere w0 w
section
variable {w0 w w' : World} {Z Z' F : Nat → Prop} {x z y u m : Nat} {gx gx' gz : Option Nat} {a b c d : Qs} {l' : List Adv} {s' : Bool}
theorem Fo.still (h : Fo w0 w Z x gx z gz y u m a b c d) (ht : Turn nowhere w w') : Fo w0 w' Z x gx z gz y u m a b c d := ⟨h.qx.still ht, h.qz.still ht, h.ry.still ht, h.ru.still ht, h.xz, h.yu, h.gg, h.nw, h.tn.trans ht fun _ _ e => e⟩
theorem Fo.mono (h : Fo w0 w Z x gx z gz y u m a b c d) (hZ : ∀ k, k < w.heap.size → Z k → Z' k) : Fo w0 w Z' x gx z gz y u m a b c d := ⟨h.qx.mono hZ, h.qz.mono hZ, h.ry.mono hZ, h.ru.mono hZ, h.xz, h.yu, h.gg, h.nw, h.tn⟩
theorem Fo.offx (h : Fo w0 w Z x gx z gz y u m a b c d) {k : Nat} {t : TypeId} {cs : Array Value} (hk : Blk w k t cs) (h1 : t ≠ 56) (h2 : t ≠ 64) : ¬ foot x gx k := h.qx.foot_f hk h1 h2
theorem Fo.offy (h : Fo w0 w Z x gx z gz y u m a b c d) {k : Nat} {t : TypeId} {cs : Array Value} (hk : Blk w k t cs) (h1 : t ≠ 59) : ¬ only y k := h.ry.foot_f hk h1
/-- a call of x -/
theorem Fo.cx (h : Fo w0 w Z x gx z gz y u m a b c d) (q : Que w' Z' x gx' m l' s') (ht : Turn (foot x gx) w w') (hZ : ∀ k, Z k → Z' k) (hg : gx' = gx ∨ ∃ k, gx' = some k ∧ w.heap.size ≤ k) : Fo w0 w' Z' x gx' z gz y u m (l', s') b c d := by
  have hF : ∀ k cur, Blk w k 41 cur → Z k → ¬ foot x gx k := fun k cur hk _ => h.offx hk (by decide) (by decide)
  obtain ⟨csz, hz⟩ := h.qz.box
  obtain ⟨csx, hx⟩ := h.qx.box
  obtain ⟨csy, hy⟩ := h.ry.box
  obtain ⟨csu, hu⟩ := h.ru.box
  refine ⟨q, (h.qz.turn ht ?_ ?_ hF).mono fun k _ hk => hZ k hk, (h.ry.turn ht (h.offx hy (by decide) (by decide)) (fun k cur hk => h.offx hk (by decide) (by decide)) hF).mono fun k _ hk => hZ k hk, (h.ru.turn ht (h.offx hu (by decide) (by decide)) (fun k cur hk => h.offx hk (by decide) (by decide)) hF).mono fun k _ hk => hZ k hk, h.xz, h.yu, fun k hk hk2 => ?_, ⟨h.nw.1, h.nw.2.1, h.nw.2.2.1, h.nw.2.2.2.1, fun k hk => ?_, h.nw.2.2.2.2.2⟩, foot_new h.nw.1 h.nw.2.2.2.2.1 h.tn ht⟩
  · rintro (e | e)
    · exact h.xz e.symm
    · obtain ⟨cur, hc⟩ := h.qx.rowb e
      exact hc.ne_ hz (by decide) rfl
  · intro k hk e
    obtain ⟨cur, hc⟩ := h.qz.rowb hk
    rcases e with e | e
    · subst e
      exact hc.ne_ hx (by decide) rfl
    · exact h.gg k e hk
  · rcases hg with rfl | ⟨k', e, hk'⟩
    · exact h.gg k hk hk2
    · rw [hk] at e
      injection e with e
      obtain ⟨cur, hc⟩ := h.qz.rowb hk2
      have := hc.lt
      omega
  · rcases hg with rfl | ⟨k', e, hk'⟩
    · exact h.nw.2.2.2.2.1 k hk
    · rw [hk] at e
      injection e with e
      have := h.tn.size
      omega
/-- a call of y -/
theorem Fo.cy (h : Fo w0 w Z x gx z gz y u m a b c d) (q : RQue w' Z' y m l' s') (ht : Turn (only y) w w') (hZ : ∀ k, Z k → Z' k) : Fo w0 w' Z' x gx z gz y u m a b (l', s') d := by
  have hF : ∀ k cur, Blk w k 41 cur → Z k → ¬ only y k := fun k cur hk _ => h.offy hk (by decide)
  obtain ⟨csz, hz⟩ := h.qz.box
  obtain ⟨csx, hx⟩ := h.qx.box
  have hrow : ∀ (q : Nat) (g : Option Nat) (l : List Adv) (s : Bool), Que w Z q g m l s → ∀ k, g = some k → ¬ only y k := fun q g l s hq k hk => by
    obtain ⟨cur, hc⟩ := hq.rowb hk
    exact h.offy hc (by decide)
  have hny : ∀ k, only y k → w0.heap.size ≤ k := fun k e => by
    have e : k = y := e
    have := h.nw.2.2.1
    omega
  exact ⟨(h.qx.turn ht (h.offy hx (by decide)) (hrow _ _ _ _ h.qx) hF).mono fun k _ hk => hZ k hk, (h.qz.turn ht (h.offy hz (by decide)) (hrow _ _ _ _ h.qz) hF).mono fun k _ hk => hZ k hk, q, (h.ru.turn ht (fun e => h.yu (show u = y from e).symm) (fun k cur hk => h.offy hk (by decide)) hF).mono fun k _ hk => hZ k hk, h.xz, h.yu, h.gg, h.nw, h.tn.trans ht fun k hk e => by have := hny k e; omega⟩
/-- a text of fields that are none of theirs is written -/
theorem Fo.write (h : Fo w0 w Z x gx z gz y u m a b c d) {g : Nat} {cs : Array Value} (hb : Blk w g 41 cs) (ht : Turn (only g) w w') (hg : ¬ Z g) (hn : w0.heap.size ≤ g) : Fo w0 w' Z x gx z gz y u m a b c d := by
  have hne : ∀ k t cur, Blk w k t cur → t ≠ 41 → ¬ only g k := fun k t cur hk h1 e => by
    have e : k = g := e
    subst e
    exact hk.ne_ hb h1 rfl
  have hF : ∀ k cur, Blk w k 41 cur → Z k → ¬ only g k := fun k cur _ hk e => by
    have e : k = g := e
    exact hg (e ▸ hk)
  obtain ⟨csz, hz⟩ := h.qz.box
  obtain ⟨csx, hx⟩ := h.qx.box
  obtain ⟨csy, hy⟩ := h.ry.box
  obtain ⟨csu, hu⟩ := h.ru.box
  have hrow : ∀ (q : Nat) (g' : Option Nat) (l : List Adv) (s : Bool), Que w Z q g' m l s → ∀ k, g' = some k → ¬ only g k := fun q g' l s hq k hk => by
    obtain ⟨cur, hc⟩ := hq.rowb hk
    exact hne k _ cur hc (by decide)
  exact ⟨h.qx.turn ht (hne _ _ _ hx (by decide)) (hrow _ _ _ _ h.qx) hF, h.qz.turn ht (hne _ _ _ hz (by decide)) (hrow _ _ _ _ h.qz) hF, h.ry.turn ht (hne _ _ _ hy (by decide)) (fun k cur hk => hne k _ cur hk (by decide)) hF, h.ru.turn ht (hne _ _ _ hu (by decide)) (fun k cur hk => hne k _ cur hk (by decide)) hF, h.xz, h.yu, h.gg, h.nw, newer h.tn hn ht⟩
/-- a variable that holds a message is written -/
theorem Fo.var (h : Fo w0 w Z x gx z gz y u m a b c d) {g : Nat} {cs : Array Value} (hb : Blk w g 35 cs) (ht : Turn (only g) w w') (hn : w0.heap.size ≤ g) : Fo w0 w' Z x gx z gz y u m a b c d := by
  have hne : ∀ k t cur, Blk w k t cur → t ≠ 35 → ¬ only g k := fun k t cur hk h1 e => by
    have e : k = g := e
    subst e
    exact hk.ne_ hb h1 rfl
  have hF : ∀ k cur, Blk w k 41 cur → Z k → ¬ only g k := fun k cur hk _ => hne k _ cur hk (by decide)
  obtain ⟨csz, hz⟩ := h.qz.box
  obtain ⟨csx, hx⟩ := h.qx.box
  obtain ⟨csy, hy⟩ := h.ry.box
  obtain ⟨csu, hu⟩ := h.ru.box
  have hrow : ∀ (q : Nat) (g' : Option Nat) (l : List Adv) (s : Bool), Que w Z q g' m l s → ∀ k, g' = some k → ¬ only g k := fun q g' l s hq k hk => by
    obtain ⟨cur, hc⟩ := hq.rowb hk
    exact hne k _ cur hc (by decide)
  exact ⟨h.qx.turn ht (hne _ _ _ hx (by decide)) (hrow _ _ _ _ h.qx) hF, h.qz.turn ht (hne _ _ _ hz (by decide)) (hrow _ _ _ _ h.qz) hF, h.ry.turn ht (hne _ _ _ hy (by decide)) (fun k cur hk => hne k _ cur hk (by decide)) hF, h.ru.turn ht (hne _ _ _ hu (by decide)) (fun k cur hk => hne k _ cur hk (by decide)) hF, h.xz, h.yu, h.gg, h.nw, newer h.tn hn ht⟩
/-- a clone of x takes its place -/
theorem Fo.clone (h : Fo w0 w Z x gx z gz y u m a b c d) {x2 g2 : Nat} (q : Que w' Z x2 (some g2) m a.1 a.2) (hx2 : w.heap.size ≤ x2) (hg2 : w.heap.size ≤ g2) (ht : Turn nowhere w w') : Fo w0 w' Z x2 (some g2) x gx y u m a a c d := by
  have hs := h.tn.size
  obtain ⟨csx, hx⟩ := h.qx.box
  have hxl := hx.lt
  exact ⟨q, h.qx.still ht, h.ry.still ht, h.ru.still ht, by omega, h.yu, fun k hk hk2 => by
    injection hk with hk
    obtain ⟨cur, hc⟩ := h.qx.rowb hk2
    have := hc.lt
    omega, ⟨by omega, h.nw.1, h.nw.2.2.1, h.nw.2.2.2.1, fun k hk => by
      injection hk with hk
      omega, h.nw.2.2.2.2.1⟩, h.tn.trans ht fun _ _ e => e⟩
theorem Fo.rclone (h : Fo w0 w Z x gx z gz y u m a b c d) {y2 : Nat} (q : RQue w' Z y2 m c.1 c.2) (hy2 : w.heap.size ≤ y2) (ht : Turn nowhere w w') : Fo w0 w' Z x gx z gz y2 y m a b c c := by
  have hs := h.tn.size
  obtain ⟨csy, hy⟩ := h.ry.box
  have hyl := hy.lt
  exact ⟨h.qx.still ht, h.qz.still ht, q, h.ry.still ht, h.xz, by omega, h.gg, ⟨h.nw.1, h.nw.2.1, by omega, h.nw.2.2.1, h.nw.2.2.2.2⟩, h.tn.trans ht fun _ _ e => e⟩
end
/-- rows that may be written: so many fields -/
def Wr (w : World) (N : Nat) (A : Option Addr) (n c : Nat) : Prop := ∃ rs, Orw w N 41 2 (.slice A n c) rs
theorem Fr.wr {w : World} {N n c : Nat} {A : Option Addr} {fs : List Fld} (h : Fr w N (.slice A n c) fs) : Wr w N A n c := ⟨_, h⟩
theorem Wr.still {w w' : World} {N n c : Nat} {A : Option Addr} (h : Wr w N A n c) (ht : Turn nowhere w w') : Wr w' N A n c := by
  obtain ⟨rs, h1⟩ := h
  exact ⟨rs, h1.still ht⟩
theorem Wr.turn {w w' : World} {N n c : Nat} {A : Option Addr} {F : Nat → Prop} (h : Wr w N A n c) (ht : Turn F w w') (hF : ∀ k cs, Blk w k 41 cs → ¬ F k) : Wr w' N A n c := by
  obtain ⟨rs, h1⟩ := h
  exact ⟨rs, h1.turn ht fun b hb => by
    obtain ⟨cur, hc⟩ := Orw.own_blk h1 hb
    exact hF b cur hc⟩
/-- one text of it is written -/
theorem Wr.set {w : World} {N n c i : Nat} {A : Option Addr} (h : Wr w N A n c) (hi : i < n) : ∃ g cur, A = some ⟨g, 0, none⟩ ∧ N ≤ g ∧ Blk w g 41 cur ∧ i * 2 + 1 < cur.size ∧ ∀ w' v, v.oneCell' = true → Blk w' g 41 (cur.setIfInBounds (i * 2 + 1) v) → Wr w' N A n c := by
  obtain ⟨rs, h1⟩ := h
  have hl : rs.length = n := by
    obtain ⟨A', c', e, _⟩ := h1.form
    injection e with _ e _
    exact e.symm
  obtain ⟨g, c', e, _⟩ := h1.some_ (by omega)
  injection e with e1 _ e3
  subst e1 e3
  obtain ⟨cur, hb, hcs, ht, hn, hnc, hcm, hB⟩ := orw_block h1
  have hle : i * 2 + 1 < cur.size := by rw [hcs]; omega
  refine ⟨g, cur, rfl, hB, hb, hle, fun w' v hv hb' => ?_⟩
  obtain ⟨r, hr⟩ : ∃ r, rs[i]? = some r := ⟨rs[i]'(by omega), List.getElem?_eq_getElem _⟩
  have hr2 := h1.1 r (List.mem_of_getElem? hr)
  match r, hr2.1 with
  | [p, q], _ =>
    refine ⟨rs.set i [p, v], orw_set h1 hb hb' (by simp) hi rfl (fun u hu => ?_) (fun j => ?_) (by decide)⟩
    · rcases List.mem_cons.1 hu with rfl | hu
      · exact hr2.2 u (by simp)
      · obtain rfl : u = v := by simpa using hu
        exact hv
    · have hp : cur[i * 2]? = some p := by
        have h2 := flat_at (j := 0) h1.1 hr (by decide)
        rw [← ht, List.getElem?_take, if_pos (by omega), Array.getElem?_toList, Nat.add_zero] at h2
        rw [h2]
        rfl
      rw [Array.getElem?_setIfInBounds]
      by_cases h2 : i * 2 + 1 = j
      · subst h2
        rw [if_pos rfl, if_pos hle, if_pos (by omega), show i * 2 + 1 - i * 2 = 1 from by omega]
        rfl
      · rw [if_neg h2]
        by_cases h3 : j = i * 2
        · subst h3
          rw [if_pos (by omega), Nat.sub_self, hp]
          rfl
        · rw [if_neg (by omega)]
theorem Fq.fl {w : World} {A : Option Addr} {n : Nat} {fs : List Fld} (h : Fq w A n fs) : Fl w A n fs := fl_rws h.1
end Go.Proofs.Ytkcedcllefcboaa
