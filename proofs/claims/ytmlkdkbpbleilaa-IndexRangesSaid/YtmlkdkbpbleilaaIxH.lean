/-
  Index: nodes in memory, as a map from blocks to what they hold; what a call does to them. No conditions.
-/
import Derived.Test.YtmlkdkbpbleilaaIxF
import Derived.Test.YtmlkdkbpbleilaaIxCK
namespace Go.Proofs.Ytmlkdkbpbleilaa
open Go.RowKit
open Ix
set_option linter.unusedVariables false
set_option linter.unusedSimpArgs false
/-- a value of one cell goes into a block: the world under a name of its own -/
theorem wpList_storeU {P : Program} {ops : Array Oper} {rest : List Oper} {o : Oper} {a : Act} {w : World} {Q : Exit → Act → World → Prop} (i : Nat) (v : Value) (hgd : Region.wanted o (yielded ops a.tmps) = true) (ty : TypeId) (x y : Operand) (ho : o.op = .store ty x y) {g : Nat} {t : TypeId} {old : Array Value} (hb : Blk w g t old)
    (hx : a.eval x = .pointer (some ⟨g, i, none⟩)) (hy : a.eval y = v) (hi : i < old.size) (hv : v.cells = #[v] ∧ v.oneCell' = true) (hsz : (P.info? ty).map (·.size) = some 1)
    (h : ∀ w', Blk w' g t (old.setIfInBounds i v) → Turn (only g) w w' → wpList P ops Q rest (a.put o.dst undef) w') : wpList P ops Q (o :: rest) a w :=
  wpList_store1 hgd ty x y ho hb hx hy hi hv.1 hv.2 hsz (h _)
theorem slice_one {w : World} {B k : Nat} {et : TypeId} {v : Value} {rs : List (List Value)} (h : Orw w B et k v rs) : v.cells = #[v] ∧ v.oneCell' = true := by
  obtain ⟨A9, c9, rfl, _⟩ := h.form
  exact ⟨rfl, rfl⟩
structure Nd0 where
  ps : List Pr
  ks : List Nat
  vp : Value
  vk : Value
abbrev Hp := Nat → Option Nd0
/-- the nodes lie in memory, none on another one's rows -/
structure In (w : World) (H : Hp) : Prop where
  at_ : ∀ {p : Nat} {nd : Nd0}, H p = some nd → NodeAt w p nd.vp nd.vk nd.ps nd.ks
  sepP : ∀ {p q : Nat} {a b : Nd0} {g : Nat}, H p = some a → H q = some b → a.vp.ownBlock = some g → b.vp.ownBlock = some g → p = q
  sepK : ∀ {p q : Nat} {a b : Nd0} {g : Nat}, H p = some a → H q = some b → a.vk.ownBlock = some g → b.vk.ownBlock = some g → p = q
def foot (H : Hp) : Nat → Prop := fun b => ∃ p nd, H p = some nd ∧ (b = p ∨ nd.vp.ownBlock = some b ∨ nd.vk.ownBlock = some b)
def up (H : Hp) (p : Nat) (nd : Nd0) : Hp := fun q => if q = p then some nd else H q
theorem up_same (H : Hp) (p : Nat) (nd : Nd0) : up H p nd p = some nd := if_pos rfl
theorem up_other (H : Hp) (p : Nat) (nd : Nd0) {q : Nat} (h : q ≠ p) : up H p nd q = H q := if_neg h
/-- what a call leaves -/
structure To (w : World) (H : Hp) (w' : World) (H' : Hp) : Prop where
  in_ : In w' H'
  turn : Turn (foot H) w w'
  foot : ∀ b, foot H' b → Go.Proofs.Ytmlkdkbpbleilaa.foot H b ∨ w.heap.size ≤ b
theorem Orw.own_blk {w : World} {B k : Nat} {et : TypeId} {v : Value} {rs : List (List Value)} (h : Orw w B et k v rs) {b : Nat} (hb : v.ownBlock = some b) : ∃ cur, Blk w b et cur := by
  rcases h.2.2 with ⟨rfl, _⟩ | ⟨g, cap, cur, rfl, _, hg, _⟩
  · cases hb
  · obtain rfl : g = b := Option.some.inj hb
    exact ⟨cur, hg⟩
theorem In.foot_lt {w : World} {H : Hp} (h : In w H) {b : Nat} (hb : foot H b) : b < w.heap.size := by
  obtain ⟨p, nd, hp, hb⟩ := hb
  have hn := h.at_ hp
  rcases hb with rfl | hb | hb
  · exact hn.blk.lt
  · exact (hn.prs.lt hb).2
  · exact (hn.kds.lt hb).2
theorem To.refl {w : World} {H : Hp} (h : In w H) : To w H w H := ⟨h, Turn.refl _ _, fun b hb => .inl hb⟩
theorem To.trans {w w1 w2 : World} {H H1 H2 : Hp} (h : To w H w1 H1) (g : To w1 H1 w2 H2) : To w H w2 H2 := by
  refine ⟨g.in_, h.turn.trans g.turn fun k hk hf => ?_, fun b hb => ?_⟩
  · rcases h.foot k hf with h1 | h1
    · exact h1
    · omega
  · rcases g.foot b hb with h1 | h1
    · exact h.foot b h1
    · exact .inr (by have := h.turn.size; omega)
theorem In.turn {w w' : World} {H : Hp} {F : Nat → Prop} (h : In w H) (ht : Turn F w w') (hF : ∀ b, F b → ¬ foot H b) : In w' H :=
  ⟨fun {p nd} hp => ⟨(h.at_ hp).blk.turn ht fun e => hF p e ⟨p, nd, hp, .inl rfl⟩, (h.at_ hp).prs.turn ht fun b hb e => hF b e ⟨p, nd, hp, .inr (.inl hb)⟩, (h.at_ hp).kds.turn ht fun b hb e => hF b e ⟨p, nd, hp, .inr (.inr hb)⟩⟩, h.sepP, h.sepK⟩
theorem In.still {w w' : World} {H : Hp} (h : In w H) (ht : Turn nowhere w w') : In w' H := h.turn ht fun _ e => e.elim
theorem To.still {w w' : World} {H : Hp} (h : In w H) (ht : Turn nowhere w w') : To w H w' H := ⟨h.still ht, ht.mono fun _ _ e => e.elim, fun b hb => .inl hb⟩
/-- a node's pairs changed, its own row or a new one -/
theorem In.setP {w w1 w2 : World} {H : Hp} {p : Nat} {nd : Nd0} {v' : Value} {ps' : List Pr} (h : In w H) (hp : H p = some nd) (ht1 : Turn (fun b => nd.vp.ownBlock = some b) w w1) (hown : ∀ b, v'.ownBlock = some b → nd.vp.ownBlock = some b ∨ w.heap.size ≤ b)
    (ht2 : Turn (only p) w1 w2) (hb : Blk w2 p 62 #[v', nd.vk]) (hr : Orw w1 0 65 2 v' (ps'.map encP)) : To w H w2 (up H p ⟨ps', nd.ks, v', nd.vk⟩) := by
  have hn := h.at_ hp
  have key : ∀ {q : Nat} {b : Nd0}, H q = some b → ∀ {g : Nat}, b.vp.ownBlock = some g → v'.ownBlock = some g → q = p := by
    intro q b hq g h1 h2
    rcases hown g h2 with h3 | h3
    · exact h.sepP hq hp h1 h3
    · have := ((h.at_ hq).prs.lt h1).2
      omega
  have hpw1 : Blk w1 p 62 #[nd.vp, nd.vk] := hn.blk.turn ht1 fun e => hn.prs.ne hn.blk (by decide) _ e rfl
  refine ⟨⟨fun {q b} hq => ?_, fun {q r a b g} hq hr2 h1 h2 => ?_, fun {q r a b g} hq hr2 h1 h2 => ?_⟩, ?_, ?_⟩
  · by_cases hqp : q = p
    · subst hqp
      rw [up_same] at hq
      obtain rfl := Option.some.inj hq
      refine ⟨hb, hr.turn ht2 fun b hb2 e => ?_, (hn.kds.turn ht1 fun b hb2 e => ?_).turn ht2 fun b hb2 e => ?_⟩
      · exact hr.ne hpw1 (by decide) b hb2 e
      · obtain ⟨c1, hc1⟩ := hn.kds.own_blk hb2
        obtain ⟨c2, hc2⟩ := hn.prs.own_blk e
        exact hc1.ne_ hc2 (by decide) rfl
      · exact hn.kds.ne hn.blk (by decide) b hb2 e
    · rw [up_other _ _ _ hqp] at hq
      have hm := h.at_ hq
      refine ⟨(hm.blk.turn ht1 fun e => ?_).turn ht2 fun e => hqp e, (hm.prs.turn ht1 fun b2 hb2 e => hqp (h.sepP hq hp hb2 e)).turn ht2 fun b2 hb2 e => ?_, (hm.kds.turn ht1 fun b2 hb2 e => ?_).turn ht2 fun b2 hb2 e => ?_⟩
      · exact hn.prs.ne hm.blk (by decide) _ e rfl
      · exact hm.prs.ne hn.blk (by decide) b2 hb2 e
      · obtain ⟨c1, hc1⟩ := hm.kds.own_blk hb2
        obtain ⟨c2, hc2⟩ := hn.prs.own_blk e
        exact hc1.ne_ hc2 (by decide) rfl
      · exact hm.kds.ne hn.blk (by decide) b2 hb2 e
  · by_cases hqp : q = p
    · subst hqp
      rw [up_same] at hq
      obtain rfl := Option.some.inj hq
      by_cases hrp : r = q
      · exact hrp.symm
      · rw [up_other _ _ _ hrp] at hr2
        exact absurd (key hr2 h2 h1) hrp
    · rw [up_other _ _ _ hqp] at hq
      by_cases hrp : r = p
      · subst hrp
        rw [up_same] at hr2
        obtain rfl := Option.some.inj hr2
        exact absurd (key hq h1 h2) hqp
      · rw [up_other _ _ _ hrp] at hr2
        exact h.sepP hq hr2 h1 h2
  · by_cases hqp : q = p
    · subst hqp
      rw [up_same] at hq
      obtain rfl := Option.some.inj hq
      by_cases hrp : r = q
      · exact hrp.symm
      · rw [up_other _ _ _ hrp] at hr2
        exact h.sepK hp hr2 h1 h2
    · rw [up_other _ _ _ hqp] at hq
      by_cases hrp : r = p
      · subst hrp
        rw [up_same] at hr2
        obtain rfl := Option.some.inj hr2
        exact h.sepK hq hp h1 h2
      · rw [up_other _ _ _ hrp] at hr2
        exact h.sepK hq hr2 h1 h2
  · exact (ht1.mono (G := foot H) fun k _ e => ⟨p, nd, hp, .inr (.inl e)⟩).trans (ht2.mono (G := foot H) fun k _ e => ⟨p, nd, hp, .inl e⟩) fun _ _ e => e
  · intro b hb2
    obtain ⟨q, nd2, hq, hb2⟩ := hb2
    by_cases hqp : q = p
    · subst hqp
      rw [up_same] at hq
      obtain rfl := Option.some.inj hq
      rcases hb2 with rfl | hb2 | hb2
      · exact .inl ⟨_, nd, hp, .inl rfl⟩
      · rcases hown b hb2 with h1 | h1
        · exact .inl ⟨_, nd, hp, .inr (.inl h1)⟩
        · exact .inr h1
      · exact .inl ⟨_, nd, hp, .inr (.inr hb2)⟩
    · rw [up_other _ _ _ hqp] at hq
      exact .inl ⟨q, nd2, hq, hb2⟩
/-- a node's kids changed, its own row or a new one -/
theorem In.setK {w w1 w2 : World} {H : Hp} {p : Nat} {nd : Nd0} {v' : Value} {ks' : List Nat} (h : In w H) (hp : H p = some nd) (ht1 : Turn (fun b => nd.vk.ownBlock = some b) w w1) (hown : ∀ b, v'.ownBlock = some b → nd.vk.ownBlock = some b ∨ w.heap.size ≤ b)
    (ht2 : Turn (only p) w1 w2) (hb : Blk w2 p 62 #[nd.vp, v']) (hr : Orw w1 0 56 1 v' (ks'.map encK)) : To w H w2 (up H p ⟨nd.ps, ks', nd.vp, v'⟩) := by
  have hn := h.at_ hp
  have key : ∀ {q : Nat} {b : Nd0}, H q = some b → ∀ {g : Nat}, b.vk.ownBlock = some g → v'.ownBlock = some g → q = p := by
    intro q b hq g h1 h2
    rcases hown g h2 with h3 | h3
    · exact h.sepK hq hp h1 h3
    · have := ((h.at_ hq).kds.lt h1).2
      omega
  have hpw1 : Blk w1 p 62 #[nd.vp, nd.vk] := hn.blk.turn ht1 fun e => hn.kds.ne hn.blk (by decide) _ e rfl
  refine ⟨⟨fun {q b} hq => ?_, fun {q r a b g} hq hr2 h1 h2 => ?_, fun {q r a b g} hq hr2 h1 h2 => ?_⟩, ?_, ?_⟩
  · by_cases hqp : q = p
    · subst hqp
      rw [up_same] at hq
      obtain rfl := Option.some.inj hq
      refine ⟨hb, (hn.prs.turn ht1 fun b hb2 e => ?_).turn ht2 fun b hb2 e => ?_, hr.turn ht2 fun b hb2 e => hr.ne hpw1 (by decide) b hb2 e⟩
      · obtain ⟨c1, hc1⟩ := hn.prs.own_blk hb2
        obtain ⟨c2, hc2⟩ := hn.kds.own_blk e
        exact hc1.ne_ hc2 (by decide) rfl
      · exact hn.prs.ne hn.blk (by decide) b hb2 e
    · rw [up_other _ _ _ hqp] at hq
      have hm := h.at_ hq
      refine ⟨(hm.blk.turn ht1 fun e => ?_).turn ht2 fun e => hqp e, (hm.prs.turn ht1 fun b2 hb2 e => ?_).turn ht2 fun b2 hb2 e => ?_, (hm.kds.turn ht1 fun b2 hb2 e => hqp (h.sepK hq hp hb2 e)).turn ht2 fun b2 hb2 e => hm.kds.ne hn.blk (by decide) b2 hb2 e⟩
      · exact hn.kds.ne hm.blk (by decide) _ e rfl
      · obtain ⟨c1, hc1⟩ := hm.prs.own_blk hb2
        obtain ⟨c2, hc2⟩ := hn.kds.own_blk e
        exact hc1.ne_ hc2 (by decide) rfl
      · exact hm.prs.ne hn.blk (by decide) b2 hb2 e
  · by_cases hqp : q = p
    · subst hqp
      rw [up_same] at hq
      obtain rfl := Option.some.inj hq
      by_cases hrp : r = q
      · exact hrp.symm
      · rw [up_other _ _ _ hrp] at hr2
        exact h.sepP hp hr2 h1 h2
    · rw [up_other _ _ _ hqp] at hq
      by_cases hrp : r = p
      · subst hrp
        rw [up_same] at hr2
        obtain rfl := Option.some.inj hr2
        exact h.sepP hq hp h1 h2
      · rw [up_other _ _ _ hrp] at hr2
        exact h.sepP hq hr2 h1 h2
  · by_cases hqp : q = p
    · subst hqp
      rw [up_same] at hq
      obtain rfl := Option.some.inj hq
      by_cases hrp : r = q
      · exact hrp.symm
      · rw [up_other _ _ _ hrp] at hr2
        exact absurd (key hr2 h2 h1) hrp
    · rw [up_other _ _ _ hqp] at hq
      by_cases hrp : r = p
      · subst hrp
        rw [up_same] at hr2
        obtain rfl := Option.some.inj hr2
        exact absurd (key hq h1 h2) hqp
      · rw [up_other _ _ _ hrp] at hr2
        exact h.sepK hq hr2 h1 h2
  · exact (ht1.mono (G := foot H) fun k _ e => ⟨p, nd, hp, .inr (.inr e)⟩).trans (ht2.mono (G := foot H) fun k _ e => ⟨p, nd, hp, .inl e⟩) fun _ _ e => e
  · intro b hb2
    obtain ⟨q, nd2, hq, hb2⟩ := hb2
    by_cases hqp : q = p
    · subst hqp
      rw [up_same] at hq
      obtain rfl := Option.some.inj hq
      rcases hb2 with rfl | hb2 | hb2
      · exact .inl ⟨_, nd, hp, .inl rfl⟩
      · exact .inl ⟨_, nd, hp, .inr (.inl hb2)⟩
      · rcases hown b hb2 with h1 | h1
        · exact .inl ⟨_, nd, hp, .inr (.inr h1)⟩
        · exact .inr h1
    · rw [up_other _ _ _ hqp] at hq
      exact .inl ⟨q, nd2, hq, hb2⟩
/-- a new node -/
theorem In.new {w w' : World} {H : Hp} {p : Nat} {nd : Nd0} (h : In w H) (ht : Turn nowhere w w') (hp : w.heap.size ≤ p) (hn : NodeAt w' p nd.vp nd.vk nd.ps nd.ks) (hP : ∀ b, nd.vp.ownBlock = some b → w.heap.size ≤ b) (hK : ∀ b, nd.vk.ownBlock = some b → w.heap.size ≤ b) : To w H w' (up H p nd) := by
  refine ⟨⟨fun {q b} hq => ?_, fun {q r a b g} hq hr2 h1 h2 => ?_, fun {q r a b g} hq hr2 h1 h2 => ?_⟩, ht.mono fun _ _ e => e.elim, ?_⟩
  · by_cases hqp : q = p
    · subst hqp
      rw [up_same] at hq
      obtain rfl := Option.some.inj hq
      exact hn
    · rw [up_other _ _ _ hqp] at hq
      exact (h.still ht).at_ hq
  · by_cases hqp : q = p
    · subst hqp
      rw [up_same] at hq
      obtain rfl := Option.some.inj hq
      by_cases hrp : r = q
      · exact hrp.symm
      · rw [up_other _ _ _ hrp] at hr2
        have := ((h.at_ hr2).prs.lt h2).2
        have := hP _ h1
        omega
    · rw [up_other _ _ _ hqp] at hq
      by_cases hrp : r = p
      · subst hrp
        rw [up_same] at hr2
        obtain rfl := Option.some.inj hr2
        have := ((h.at_ hq).prs.lt h1).2
        have := hP _ h2
        omega
      · rw [up_other _ _ _ hrp] at hr2
        exact h.sepP hq hr2 h1 h2
  · by_cases hqp : q = p
    · subst hqp
      rw [up_same] at hq
      obtain rfl := Option.some.inj hq
      by_cases hrp : r = q
      · exact hrp.symm
      · rw [up_other _ _ _ hrp] at hr2
        have := ((h.at_ hr2).kds.lt h2).2
        have := hK _ h1
        omega
    · rw [up_other _ _ _ hqp] at hq
      by_cases hrp : r = p
      · subst hrp
        rw [up_same] at hr2
        obtain rfl := Option.some.inj hr2
        have := ((h.at_ hq).kds.lt h1).2
        have := hK _ h2
        omega
      · rw [up_other _ _ _ hrp] at hr2
        exact h.sepK hq hr2 h1 h2
  · intro b hb2
    obtain ⟨q, nd2, hq, hb2⟩ := hb2
    by_cases hqp : q = p
    · subst hqp
      rw [up_same] at hq
      obtain rfl := Option.some.inj hq
      rcases hb2 with rfl | hb2 | hb2
      · exact .inr hp
      · exact .inr (hP _ hb2)
      · exact .inr (hK _ hb2)
    · rw [up_other _ _ _ hqp] at hq
      exact .inl ⟨q, nd2, hq, hb2⟩
/-- a node -/
def Is (H : Hp) (p : Nat) (ps : List Pr) (ks : List Nat) : Prop := ∃ vp vk, H p = some ⟨ps, ks, vp, vk⟩
def Same (H H' : Hp) (S : Nat → Prop) : Prop := ∀ q, ¬ S q → H' q = H q
theorem Is.same {H H' : Hp} {S : Nat → Prop} {p : Nat} {ps : List Pr} {ks : List Nat} (h : Is H p ps ks) (hs : Same H H' S) (hp : ¬ S p) : Is H' p ps ks := by
  obtain ⟨vp, vk, h⟩ := h
  exact ⟨vp, vk, (hs p hp).trans h⟩
theorem Is.up_ (H : Hp) (p : Nat) (nd : Nd0) : Is (up H p nd) p nd.ps nd.ks := ⟨nd.vp, nd.vk, up_same _ _ _⟩
theorem same_up (H : Hp) (p : Nat) (nd : Nd0) : Same H (up H p nd) (fun q => q = p) := fun q hq => up_other _ _ _ hq
theorem Same.trans {H H1 H2 : Hp} {S T U : Nat → Prop} (h : Same H H1 S) (g : Same H1 H2 T) (hS : ∀ q, S q → U q) (hT : ∀ q, T q → U q) : Same H H2 U := fun q hq => (g q fun e => hq (hT q e)).trans (h q fun e => hq (hS q e))
theorem Is.lt {w : World} {H : Hp} (h : In w H) {p : Nat} {ps : List Pr} {ks : List Nat} (hp : Is H p ps ks) : p < w.heap.size := by
  obtain ⟨vp, vk, hp⟩ := hp
  exact (h.at_ hp).blk.lt
/-- an element of a row set -/
theorem orw_set {w w' : World} {B k b n c i : Nat} {et : TypeId} {rs : List (List Value)} {r : List Value} {cur cur' : Array Value} (h : Orw w B et k (.slice (some ⟨b, 0, none⟩) n c) rs) (hb : Blk w b et cur) (hb' : Blk w' b et cur') (hs : cur'.size = cur.size) (hi : i < n)
    (hr : r.length = k) (h1 : ∀ u ∈ r, u.oneCell' = true) (hc : ∀ j, cur'[j]? = if i * k ≤ j ∧ j < i * k + k then r[j - i * k]? else cur[j]?) (hk : 0 < k) : Orw w' B et k (.slice (some ⟨b, 0, none⟩) n c) (rs.set i r) := by
  obtain ⟨cur0, hcur, hcs, htake, hn, hnc, hcm, hB⟩ := orw_block h
  obtain rfl := hcur.inj hb
  have hf : Fit k (rs.set i r) := fun x hx => by
    rcases List.mem_or_eq_of_mem_set hx with hx | rfl
    · exact h.1 x hx
    · exact ⟨hr, h1⟩
  refine orw_of hb' hB hf (by rw [List.length_set]; exact hn) hnc hcm (hs.trans hcs) ?_
  apply List.ext_getElem?
  intro j
  by_cases hj : j < n * k
  · rw [List.getElem?_take, if_pos hj, Array.getElem?_toList, hc]
    have hd : j / k < n := (Nat.div_lt_iff_lt_mul hk).2 hj
    have hjj : j = j / k * k + j % k := by rw [Nat.mul_comm]; exact (Nat.div_add_mod j k).symm
    have hm := Nat.mod_lt j hk
    have old : rs.flatten[j]? = cur0[j]? := by
      rw [← htake, List.getElem?_take, if_pos hj, Array.getElem?_toList]
    by_cases hij : j / k = i
    · have e1 : i * k ≤ j ∧ j < i * k + k := by rw [← hij]; omega
      rw [if_pos e1]
      have hx : (rs.set i r)[j / k]? = some r := by rw [hij, List.getElem?_set_self (by omega)]
      have := flat_at hf hx hm
      rw [← hjj] at this
      rw [this, ← hij]
      congr 1
      omega
    · have e1 : ¬ (i * k ≤ j ∧ j < i * k + k) := by
        rintro ⟨e1, e2⟩
        apply hij
        have h1 : i ≤ j / k := (Nat.le_div_iff_mul_le hk).2 e1
        have h2 : j / k < i + 1 := (Nat.div_lt_iff_lt_mul hk).2 (by rw [Nat.succ_mul]; exact e2)
        omega
      rw [if_neg e1, ← old]
      have hx0 : rs[j / k]? = some rs[j / k] := List.getElem?_eq_getElem (by omega)
      have hx : (rs.set i r)[j / k]? = some rs[j / k] := by rw [List.getElem?_set_ne (fun e => hij e.symm)]; exact hx0
      have a1 := flat_at hf hx hm
      have a2 := flat_at h.1 hx0 hm
      rw [← hjj] at a1 a2
      rw [a1, a2]
  · rw [List.getElem?_eq_none (by rw [List.length_take]; omega), List.getElem?_eq_none (by rw [flat_len hf, List.length_set, hn]; omega)]
end Go.Proofs.Ytmlkdkbpbleilaa
