/-
  PlantPlays: two plants of the code's beside two of the reference's. No conditions.
-/
import Derived.Test.YteedjfgandgbkaaPpK
namespace Go.Proofs.Yteedjfgandgbkaa
open Go.RowKit Go.Maps
set_option linter.unusedVariables false
set_option linter.unusedSimpArgs false
/-- x and z are the code's, y and u the reference's; L: blocks of which none of them knows -/
structure Qd (w : World) (L : Nat → Prop) (K : Nat) (x : Nat) (F : Nat → Prop) (s : AP) (y : Nat) (G Z : Nat → Prop) (a : RP) (z : Nat) (F2 : Nat → Prop) (s2 : AP) (u : Nat) (G2 Z2 : Nat → Prop) (a2 : RP) : Prop where
  px : PlantAt w x F s K
  py : RAt w y G Z a
  pz : PlantAt w z F2 s2 K
  pu : RAt w u G2 Z2 a2
  ff : ∀ b, F b → ¬ F2 b
  gg : ∀ b, G b → ¬ G2 b
  fx : ∀ b, F b → ¬ (G b ∨ G2 b ∨ Z b ∨ Z2 b)
  fz : ∀ b, F2 b → ¬ (G b ∨ G2 b ∨ Z b ∨ Z2 b)
  lt : ∀ b, L b → b < w.heap.size
  ap : ∀ b, L b → ¬ (F b ∨ F2 b ∨ G b ∨ G2 b ∨ Z b ∨ Z2 b)
section
variable {w w' w1 w2 : World} {L L' : Nat → Prop} {K K' : Nat} {x y z u : Nat} {F G Z F2 G2 Z2 : Nat → Prop} {s s2 s' : AP} {a a2 a' : RP}
theorem Qd.off {H : Nat → Prop} (h : Qd w L K x F s y G Z a z F2 s2 u G2 Z2 a2) (ht : Turn H w w') (hH : ∀ b, H b → ¬ (F b ∨ F2 b ∨ G b ∨ G2 b ∨ Z b ∨ Z2 b)) : Qd w' L K x F s y G Z a z F2 s2 u G2 Z2 a2 where
  px := h.px.turn ht fun b hb e => hH b e (.inl hb)
  py := h.py.off ht (fun b hb e => hH b e (.inr (.inr (.inl hb)))) fun b hb _ e => hH b e (.inr (.inr (.inr (.inr (.inl hb)))))
  pz := h.pz.turn ht fun b hb e => hH b e (.inr (.inl hb))
  pu := h.pu.off ht (fun b hb e => hH b e (.inr (.inr (.inr (.inl hb))))) fun b hb _ e => hH b e (.inr (.inr (.inr (.inr (.inr hb)))))
  ff := h.ff
  gg := h.gg
  fx := h.fx
  fz := h.fz
  lt := fun b hb => Nat.lt_of_lt_of_le (h.lt b hb) ht.size
  ap := h.ap
theorem Qd.still (h : Qd w L K x F s y G Z a z F2 s2 u G2 Z2 a2) (ht : Turn nowhere w w') : Qd w' L K x F s y G Z a z F2 s2 u G2 Z2 a2 := h.off ht fun _ e => e.elim
theorem Qd.poke {g : Nat} (h : Qd w L K x F s y G Z a z F2 s2 u G2 Z2 a2) (ht : Turn (only g) w w') (hg : L g) : Qd w' L K x F s y G Z a z F2 s2 u G2 Z2 a2 := h.off ht fun b e => by
  have h1 : b = g := e
  rw [h1]
  exact h.ap g hg
theorem Qd.top (h : Qd w L K x F s y G Z a z F2 s2 u G2 Z2 a2) {b : Nat} (hb : w.heap.size ≤ b) : ¬ (F b ∨ F2 b ∨ G b ∨ G2 b ∨ Z b ∨ Z2 b) := fun e => by
  rcases e with e | e | e | e | e | e
  · have := h.px.lt e; omega
  · have := h.pz.lt e; omega
  · have := h.py.lt e; omega
  · have := h.pu.lt e; omega
  · have := h.py.zlt e; omega
  · have := h.pu.zlt e; omega
theorem Qd.keep {g : Nat} (h : Qd w L K x F s y G Z a z F2 s2 u G2 Z2 a2) (ht : Turn nowhere w w') (hg : w.heap.size ≤ g) (hg' : g < w'.heap.size) : Qd w' (fun b => L b ∨ b = g) K x F s y G Z a z F2 s2 u G2 Z2 a2 := { h.still ht with
  lt := fun b hb => hb.elim ((h.still ht).lt b) fun e => by rw [e]; exact hg'
  ap := fun b hb => hb.elim (h.ap b) fun e => by rw [e]; exact h.top hg }
theorem Qd.less (h : Qd w L K x F s y G Z a z F2 s2 u G2 Z2 a2) (hL : ∀ b, L' b → L b) : Qd w L' K x F s y G Z a z F2 s2 u G2 Z2 a2 := { h with
  lt := fun b hb => h.lt b (hL b hb)
  ap := fun b hb => h.ap b (hL b hb) }
theorem Qd.swap (h : Qd w L K x F s y G Z a z F2 s2 u G2 Z2 a2) : Qd w L K z F2 s2 u G2 Z2 a2 x F s y G Z a where
  px := h.pz
  py := h.pu
  pz := h.px
  pu := h.py
  ff := fun b hb e => h.ff b e hb
  gg := fun b hb e => h.gg b e hb
  fx := fun b hb e => h.fz b hb (by rcases e with e | e | e | e; exact .inr (.inl e); exact .inl e; exact .inr (.inr (.inr e)); exact .inr (.inr (.inl e)))
  fz := fun b hb e => h.fx b hb (by rcases e with e | e | e | e; exact .inr (.inl e); exact .inl e; exact .inr (.inr (.inr e)); exact .inr (.inr (.inl e)))
  lt := h.lt
  ap := fun b hb e => h.ap b hb (by
    rcases e with e | e | e | e | e | e
    · exact .inr (.inl e)
    · exact .inl e
    · exact .inr (.inr (.inr (.inl e)))
    · exact .inr (.inr (.inl e))
    · exact .inr (.inr (.inr (.inr (.inr e))))
    · exact .inr (.inr (.inr (.inr (.inl e)))))
theorem Qd.mono (h : Qd w L K x F s y G Z a z F2 s2 u G2 Z2 a2) (hK : K ≤ K') : Qd w L K' x F s y G Z a z F2 s2 u G2 Z2 a2 := { h with
  px := h.px.mono hK
  pz := h.pz.mono hK }
/-- blocks that are kept -/
def keptL (L : Nat → Prop) : Nat → Prop := fun b => ¬ L b
/-- a call of the code's first plant -/
theorem Qd.gx (h : Qd w L K x F s y G Z a z F2 s2 u G2 Z2 a2) (hg : Goes2 w x F w' s' K') (hK : K ≤ K') : ∃ F', Qd w' L K' x F' s' y G Z a z F2 s2 u G2 Z2 a2 ∧ Turn (keptL L) w w' := by
  obtain ⟨F', h1, h2, h3⟩ := hg
  have ht : Turn (keptL L) w w' := h2.mono fun b _ hb e => h.ap b e (.inl hb)
  refine ⟨F', ⟨h1, ?_, ?_, ?_, ?_, h.gg, ?_, ?_, ?_, ?_⟩, ht⟩
  · exact h.py.off h2 (fun b hb e => h.fx b e (.inl hb)) fun b hb _ e => h.fx b e (.inr (.inr (.inl hb)))
  · exact (h.pz.turn h2 fun b hb e => h.ff b e hb).mono hK
  · exact h.pu.off h2 (fun b hb e => h.fx b e (.inr (.inl hb))) fun b hb _ e => h.fx b e (.inr (.inr (.inr hb)))
  · exact fun b hb e => (h3 b hb).elim (fun k => h.ff b k e) fun k => h.top k (.inr (.inl e))
  · exact fun b hb e => (h3 b hb).elim (fun k => h.fx b k e) fun k => h.top k (.inr (.inr (by rcases e with e | e | e | e; exact .inl e; exact .inr (.inl e); exact .inr (.inr (.inl e)); exact .inr (.inr (.inr e)))))
  · exact h.fz
  · exact fun b hb => Nat.lt_of_lt_of_le (h.lt b hb) h2.size
  · intro b hb e
    rcases e with e | e
    · rcases h3 b e with k | k
      · exact h.ap b hb (.inl k)
      · have := h.lt b hb; omega
    · exact h.ap b hb (.inr e)
/-- a call of the reference's first plant -/
theorem Qd.ry (h : Qd w L K x F s y G Z a z F2 s2 u G2 Z2 a2) (hg : RTo w y G Z a' w') : ∃ G' Z', Qd w' L K x F s y G' Z' a' z F2 s2 u G2 Z2 a2 ∧ Turn (keptL L) w w' := by
  obtain ⟨G', Z', h1, h2, h3, ht⟩ := hg
  have ht' : Turn (keptL L) w w' := ht.mono fun b _ hb e => h.ap b e (.inr (.inr (.inl hb)))
  refine ⟨G', Z', ⟨?_, h1, ?_, ?_, h.ff, ?_, ?_, ?_, ?_, ?_⟩, ht'⟩
  · exact h.px.turn ht fun b hb e => h.fx b hb (.inl e)
  · exact h.pz.turn ht fun b hb e => h.fz b hb (.inl e)
  · exact h.pu.off ht (fun b hb e => h.gg b e hb) fun b _ hf e => h.py.notFrz e hf
  · exact fun b hb e => (h2 b hb).elim (fun k => h.gg b k e) fun k => h.top k (.inr (.inr (.inr (.inl e))))
  · intro b hb e
    rcases e with e | e | e | e
    · exact (h2 b e).elim (fun k => h.fx b hb (.inl k)) fun k => h.top k (.inl hb)
    · exact h.fx b hb (.inr (.inl e))
    · exact (h3 b e).elim (fun k => h.fx b hb (.inr (.inr (.inl k)))) fun k => h.top k (.inl hb)
    · exact h.fx b hb (.inr (.inr (.inr e)))
  · intro b hb e
    rcases e with e | e | e | e
    · exact (h2 b e).elim (fun k => h.fz b hb (.inl k)) fun k => h.top k (.inr (.inl hb))
    · exact h.fz b hb (.inr (.inl e))
    · exact (h3 b e).elim (fun k => h.fz b hb (.inr (.inr (.inl k)))) fun k => h.top k (.inr (.inl hb))
    · exact h.fz b hb (.inr (.inr (.inr e)))
  · exact fun b hb => Nat.lt_of_lt_of_le (h.lt b hb) ht.size
  · intro b hb e
    have hl := h.lt b hb
    rcases e with e | e | e | e | e | e
    · exact h.ap b hb (.inl e)
    · exact h.ap b hb (.inr (.inl e))
    · exact (h2 b e).elim (fun k => h.ap b hb (.inr (.inr (.inl k)))) fun k => by omega
    · exact h.ap b hb (.inr (.inr (.inr (.inl e))))
    · exact (h3 b e).elim (fun k => h.ap b hb (.inr (.inr (.inr (.inr (.inl k)))))) fun k => by omega
    · exact h.ap b hb (.inr (.inr (.inr (.inr (.inr e)))))
/-- both clones take the first ones' places, those go on beside -/
theorem Qd.clone {q q2 : Nat} {F' G' Z' : Nat → Prop} (h : Qd w L K x F s y G Z a z F2 s2 u G2 Z2 a2) (h1 : PlantAt w1 q F' s K) (ht1 : Turn nowhere w w1) (hF : ∀ b, F' b → w.heap.size ≤ b)
    (h2 : RAt w2 q2 G' Z' a) (ht2 : Turn nowhere w1 w2) (hG : ∀ b, G' b → w1.heap.size ≤ b) (hZ : ∀ b, Z' b → Z b ∨ w1.heap.size ≤ b) : Qd w2 L K q F' s q2 G' Z' a x F s y G Z a := by
  have hq := (h.still ht1).still ht2
  have ht := ht1.trans ht2 fun _ _ e => e
  refine ⟨h1.turn ht2 fun _ _ e => e, h2, hq.px, hq.py, ?_, ?_, ?_, ?_, hq.lt, ?_⟩
  · exact fun b hb e => h.top (hF b hb) (.inl e)
  · exact fun b hb e => (h.still ht1).top (hG b hb) (.inr (.inr (.inl e)))
  · intro b hb e
    have hl := h1.lt hb
    rcases e with e | e | e | e
    · have := hG b e; omega
    · exact h.top (hF b hb) (.inr (.inr (.inl e)))
    · exact (hZ b e).elim (fun k => h.top (hF b hb) (.inr (.inr (.inr (.inr (.inl k)))))) fun k => by omega
    · exact h.top (hF b hb) (.inr (.inr (.inr (.inr (.inl e)))))
  · intro b hb e
    have hl := (h.still ht1).px.lt hb
    rcases e with e | e | e | e
    · have := hG b e; omega
    · exact h.fx b hb (.inl e)
    · exact (hZ b e).elim (fun k => h.fx b hb (.inr (.inr (.inl k)))) fun k => by omega
    · exact h.fx b hb (.inr (.inr (.inl e)))
  · intro b hb e
    have hl := h.lt b hb
    have hl1 := (h.still ht1).lt b hb
    rcases e with e | e | e | e | e | e
    · have := hF b e; omega
    · exact h.ap b hb (.inl e)
    · have := hG b e; omega
    · exact h.ap b hb (.inr (.inr (.inl e)))
    · exact (hZ b e).elim (fun k => h.ap b hb (.inr (.inr (.inr (.inr (.inl k)))))) fun k => by omega
    · exact h.ap b hb (.inr (.inr (.inr (.inr (.inl e)))))
/-- the first time: two plants, then a clone of each -/
theorem Qd.init {w0 w3 w4 : World} {q q2 : Nat} {F' G' Z' : Nat → Prop} (hx : PlantAt w1 x F s K) (hF : ∀ b, F b → w0.heap.size ≤ b) (ht1 : Turn nowhere w0 w1) (hy : RAt w2 y G Z a) (ht2 : Turn nowhere w1 w2) (hG : ∀ b, G b → w1.heap.size ≤ b) (hZ : ∀ b, Z b → w1.heap.size ≤ b)
    (h1 : PlantAt w3 q F' s K) (ht3 : Turn nowhere w2 w3) (hF' : ∀ b, F' b → w2.heap.size ≤ b) (h2 : RAt w4 q2 G' Z' a) (ht4 : Turn nowhere w3 w4) (hG' : ∀ b, G' b → w3.heap.size ≤ b) (hZ' : ∀ b, Z' b → Z b ∨ w3.heap.size ≤ b) : Qd w4 (fun b => b < w0.heap.size) K x F s y G Z a q F' s q2 G' Z' a := by
  have ht34 := ht3.trans ht4 fun _ _ e => e
  have ht24 := ht2.trans ht34 fun _ _ e => e
  have s1 := ht1.size
  have s2 := ht2.size
  have s3 := ht3.size
  have s4 := ht4.size
  refine ⟨hx.turn ht24 fun _ _ e => e, hy.still ht34, h1.turn ht4 fun _ _ e => e, h2, ?_, ?_, ?_, ?_, fun b hb => by omega, ?_⟩
  · intro b hb e
    have := hx.lt hb
    have := hF' b e
    omega
  · intro b hb e
    have := hy.lt hb
    have := hG' b e
    omega
  · intro b hb e
    have := hx.lt hb
    rcases e with e | e | e | e
    · have := hG b e; omega
    · have := hG' b e; omega
    · have := hZ b e; omega
    · rcases hZ' b e with k | k
      · have := hZ b k; omega
      · omega
  · intro b hb e
    have := h1.lt hb
    have := hF' b hb
    rcases e with e | e | e | e
    · have := hy.lt e; omega
    · have := hG' b e; omega
    · have := hy.zlt e; omega
    · rcases hZ' b e with k | k
      · have := hy.zlt k; omega
      · omega
  · intro b hb e
    rcases e with e | e | e | e | e | e
    · have := hF b e; omega
    · have := hF' b e; omega
    · have := hG b e; omega
    · have := hG' b e; omega
    · have := hZ b e; omega
    · rcases hZ' b e with k | k
      · have := hZ b k; omega
      · omega
end
end Go.Proofs.Yteedjfgandgbkaa
