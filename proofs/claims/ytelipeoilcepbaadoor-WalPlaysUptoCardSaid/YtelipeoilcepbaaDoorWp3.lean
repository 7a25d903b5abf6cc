/-
  Texts in one file: WlE WlF Grd Alw Awk Iop Gnl. Conditions: the tables and the errors read as the program's text lays them.
-/
import Derived.Test.YtelipeoilcepbaaDoorWp2
import Derived.Test.YtelipeoilcepbaaDoorWp1
import Derived.Test.YtelipeoilcepbaaDoorWp0
import Derived.Test.YtelipeoilcepbaaDoorProg
import Derived.Laws.EntriesVeiled
import Derived.Laws.IdiomStrings
import Derived.Laws.Strings
import Derived.Laws.Slices
import Derived.Laws.Concat
import Derived.Laws.Strings3
import Derived.Deep.Cut
import Derived.Deep.DeepCutAuto
import Derived.Deep.CutRange
import Derived.Deep.LoopGhost
import Derived.WalkSmall
import Derived.Deep.QuietTactic
import Derived.BigQuiet
import Derived.StillTailTactics
import Derived.Laws.Bits64
namespace Go.Proofs.YtelipeoilcepbaaDoor.Wl
set_option linter.unusedVariables false
set_option linter.unusedSimpArgs false
def noAt (D : Disk) (q j : Nat) : Nat := (tst (tagAt D q j)).no
structure On (crc : B8 → Nat) (D : Disk) (S f : Nat) (L : List Rec) (gs : List Gp) (slot age seg used : Nat) : Prop where
  hd : Hd crc D slot age f
  gr : grt D = age
  good : Good crc D S f L gs
  aged : ∀ q, 2 ≤ q → q < beg S → ∀ j, j < 2 → ageAt D q j ≤ age ∧ (ageAt D q j = age → noAt D q j < f + L.length)
  sgl : seg < S
  usl : used ≤ 64
  cur : Cur D (beg seg) (beg seg + used) (f + L.length) f
section
variable {crc : B8 → Nat} {D D' : Disk} {S f : Nat} {L : List Rec} {gs : List Gp} {slot age seg used : Nat}
theorem On.disk (h : On crc D S f L gs slot age seg used) : DiskOk crc D S f L :=
  ⟨slot, age, gs, h.hd, h.good, fun q h1 h2 j hj => by rw [h.gr]; exact (h.aged q h1 h2 j hj).1⟩
theorem beg_lt {sg S : Nat} (h : sg < S) : 2 ≤ beg sg ∧ beg sg + 64 ≤ beg S := by unfold beg; omega
theorem beg_off {a b q : Nat} (h1 : beg a ≤ q) (h2 : q < beg a + 64) (h3 : beg b ≤ q) (h4 : q < beg b + 64) : a = b := by unfold beg at *; omega
theorem On.fresh (h : On crc D S f L gs slot age seg used) {P c : Nat} {sg : Nat} (hs : sg < S) (h1 : beg sg ≤ P) (h2 : P + c ≤ beg sg + 64) : Fresh D P c age (f + L.length) := fun i hi j hj e => by
  have := beg_lt hs
  have h3 := (h.aged (P + i) (by omega) (by omega) j hj).2 e.1
  have e2 : noAt D (P + i) j = f + L.length := e.2
  omega
theorem get_app {gs : List Gp} {g x : Gp} {k : Nat} (h : (gs ++ [x])[k]? = some g) : gs[k]? = some g ∨ (k = gs.length ∧ g = x) := by
  rcases Nat.lt_or_ge k gs.length with hk | hk
  · rw [List.getElem?_append_left hk] at h; exact .inl h
  · rw [List.getElem?_append_right hk] at h
    obtain ⟨hk2, _⟩ := List.getElem?_eq_some_iff.1 h
    simp at hk2
    have : k = gs.length := by omega
    subst this
    rw [Nat.sub_self] at h
    exact .inr ⟨rfl, (Option.some.inj h).symm⟩
def ast (crc : B8 → Nat) (age no : Nat) (l : Rec) : Stamp := ⟨age, no, cost l, crc (pack l)⟩
theorem On.append (hcrc : ∀ t, crc t < 4294967296) (w : Whole D) (w' : Whole D') (h : On crc D S f L gs slot age seg used) (ha4 : age < 4294967296) (hn4 : f + L.length < 4294967296) {l : Rec} (hl : ¬ long l) {sg us : Nat} (hs : sg < S) (hcur : Cur D (beg sg) (beg sg + us) (f + L.length) f) (hfit : us + cost l ≤ 64)
    (hm : Mix D (lay D (beg sg + us) (cost l) (ast crc age (f + L.length) l) (pack l)) D') :
    ((¬ ∀ q, D' q = lay D (beg sg + us) (cost l) (ast crc age (f + L.length) l) (pack l) q) ∧ DiskOk crc D' S f L) ∨
    ((∀ q, D' q = lay D (beg sg + us) (cost l) (ast crc age (f + L.length) l) (pack l) q) ∧ On crc D' S f (L ++ [l]) (gs ++ [⟨ast crc age (f + L.length) l, beg sg + us, pack l⟩]) slot age sg (us + cost l)) := by
  obtain ⟨n, hn⟩ : ∃ n, n = f + L.length := ⟨_, rfl⟩
  obtain ⟨s, hsd⟩ : ∃ s, s = ast crc age (f + L.length) l := ⟨_, rfl⟩
  obtain ⟨P, hP⟩ : ∃ P, P = beg sg + us := ⟨_, rfl⟩
  have hsok : s.ok := by
    subst hsd
    exact ⟨ha4, hn4, by have := cost_max hl; show cost l < 128; omega, hcrc _⟩
  have hsc : s.cost = cost l := by rw [hsd]; rfl
  have hsn : s.no = n := by rw [hsd, hn]; rfl
  have hsa : s.age = age := by rw [hsd]; rfl
  have hcp := cost_pos l
  have htl : (pack l).length = 40 * s.cost := by rw [hsc]; exact pack_len l
  rw [← hsd, ← hP] at hm ⊢
  rw [← hP, ← hn] at hcur
  rw [← hsc] at hm hfit ⊢
  have hb := beg_lt hs
  have hfr : Fresh D P s.cost s.age s.no := by
    rw [hsa, hsn, hn]
    exact h.fresh hs (by omega) (by omega)
  have hoff : ∀ q, ¬ (P ≤ q ∧ q < P + s.cost) → D' q = D q := fun q hq => mix_off hm w w' (lay_off hq)
  have hoth : ∀ b, b < S → b ≠ sg → ∀ q, beg b ≤ q → q < beg b + 64 → D' q = D q := fun b hbS hne q h1 h2 => hoff q fun hc => hne (beg_off h1 h2 (by omega) (by omega))
  have hst' : ∀ b, b < S → ∀ Q s' t', beg b ≤ Q → grp D' (beg b + 64) Q = some (s', t') → s'.no < n ∨ (s'.no = n ∧ ∀ q, D' q = lay D P s.cost s (pack l) q) := fun b hbS Q s' t' hQ hg => by
    rcases mix_grp hsok htl w w' hm hfr (by omega) hg with hg | ⟨_, h2, _, h4⟩
    · exact .inl (by rw [hn]; exact h.good.stale b hbS Q s' t' hQ hg)
    · exact .inr ⟨by rw [h2, hsn], h4⟩
  have hml := mix_live hsok htl w w' hm hfr hcur (by rw [hn]; exact h.good.stale sg hs) hsn (by omega) (by omega) (by omega) (by omega)
  have hhd : ∀ q, q < 2 → D' q = D q := fun q hq => hoff q (by omega)
  have hgrt : grt D' = age := by
    rw [← h.gr]
    unfold grt ages ageAt
    rw [tagAt_same (hhd 0 (by omega)), tagAt_same (hhd 0 (by omega)), tagAt_same (hhd 1 (by omega)), tagAt_same (hhd 1 (by omega))]
  have hHd : Hd crc D' slot age f := by
    have hsl := h.hd.lt
    have e1 := hhd slot hsl
    have e2 := hhd (1 - slot) (by omega)
    exact ⟨hsl, hw_same e1.symm h.hd.hw, by rw [stampOf_same e1]; exact h.hd.age, by rw [stampOf_same e1]; exact h.hd.no, h.hd.old.imp (fun ho hx => ho (hw_same e2 hx)) (fun ho => by rw [stampOf_same e2]; exact ho)⟩
  have hAge : ∀ q, 2 ≤ q → q < beg S → ∀ j, j < 2 → (ageAt D' q j ≤ age ∧ (ageAt D' q j = age → noAt D' q j < n)) ∨ (ageAt D' q j = age ∧ noAt D' q j = n) := fun q h1 h2 j hj => by
    rcases hm q j hj with e | e
    · left
      unfold ageAt noAt
      rw [tag_of_half e]
      have := h.aged q h1 h2 j hj
      unfold ageAt noAt at this
      rw [hn]; exact this
    · by_cases hin : P ≤ q ∧ q < P + s.cost
      · right
        obtain ⟨i, rfl⟩ : ∃ i, q = P + i := ⟨q - P, by omega⟩
        unfold ageAt noAt
        rw [tag_of_half e, lay_tag htl (by omega) hj, tst_tag hsok]
        exact ⟨hsa, hsn⟩
      · left
        unfold ageAt noAt
        rw [tag_of_half e]
        have e3 : tagAt (lay D P s.cost s (pack l)) q j = tagAt D q j := tagAt_same (lay_off hin)
        rw [e3, hn]
        exact h.aged q h1 h2 j hj
  rcases hml with ⟨hl1, hne⟩ | ⟨hl1, heq, he1, he2, he3⟩
  · refine .inl ⟨hne, slot, age, gs, hHd, ⟨h.good.len, h.good.no, h.good.unp, h.good.seg, fun b hbS => ?_, fun b hbS Q s' t' hQ hg => ?_⟩, fun q h1 h2 j hj => ?_⟩
    · by_cases e : b = sg
      · subst e; rw [hl1]; exact h.good.liv b hbS
      · rw [live_seg (hoth b hbS e)]; exact h.good.liv b hbS
    · rcases hst' b hbS Q s' t' hQ hg with e | ⟨_, e⟩
      · omega
      · exact absurd e hne
    · rw [hgrt]
      rcases hAge q h1 h2 j hj with e | e
      · exact e.1
      · omega
  · refine .inr ⟨heq, hHd, hgrt, ⟨by simp [h.good.len], fun k g hk => ?_, fun k g r hk hr => ?_, fun g hg => ?_, fun b hbS => ?_, fun b hbS Q s' t' hQ hg => ?_⟩, fun q h1 h2 j hj => ?_, hs, by omega, .inr ⟨he3, ?_, ?_⟩⟩
    · rcases get_app hk with hk | ⟨rfl, rfl⟩
      · exact h.good.no k g hk
      · show s.no = f + gs.length
        rw [hsn, hn, h.good.len]
    · rcases get_app hk with hk | ⟨rfl, rfl⟩
      · have hkl : k < L.length := by rw [← h.good.len]; exact (List.getElem?_eq_some_iff.1 hk).1
        rw [List.getElem?_append_left hkl] at hr
        exact h.good.unp k g r hk hr
      · rw [h.good.len, List.getElem?_append_right (Nat.le_refl _), Nat.sub_self] at hr
        obtain rfl : l = r := by simpa using hr
        exact unpack_pack hl (by rw [hsd]; rfl)
    · rcases List.mem_append.1 hg with hg | hg
      · exact h.good.seg g hg
      · obtain rfl := List.mem_singleton.1 hg
        exact ⟨sg, hs, by show beg sg ≤ P; omega, by show P + s.cost ≤ beg sg + 64; omega, by show 0 < s.cost; omega⟩
    · rw [List.filter_append]
      by_cases e : b = sg
      · subst e
        rw [hl1, h.good.liv b hbS, List.filter_cons_of_pos (by simp; omega)]; rfl
      · rw [live_seg (hoth b hbS e), h.good.liv b hbS, List.filter_cons_of_neg (by
          simp only [decide_eq_true_eq]
          intro hc
          exact e (beg_off hc.1 hc.2 (by omega) (by omega)))]
        rw [List.filter_nil, List.append_nil]
    · rw [List.length_append, List.length_singleton]
      rcases hst' b hbS Q s' t' hQ hg with e | ⟨e, _⟩ <;> omega
    · rw [List.length_append, List.length_singleton]
      rcases hAge q h1 h2 j hj with e | e
      · exact ⟨e.1, fun ee => by have := e.2 ee; omega⟩
      · exact ⟨by omega, fun _ => by omega⟩
    · rw [he1]; omega
    · rw [he2, List.length_append, List.length_singleton]
      congr 1; omega
theorem On.cut (hcrc : ∀ t, crc t < 4294967296) (w : Whole D) (w' : Whole D') (h : On crc D S f L gs slot age seg used) (ha4 : age + 1 < 4294967296) (hn4 : f + L.length < 4294967296) {k : Nat} (hk : k ≤ L.length)
    (hm : Mix D (lay D (1 - slot) 1 (hst crc (age + 1) (f + k)) z40) D') :
    ((¬ ∀ q, D' q = lay D (1 - slot) 1 (hst crc (age + 1) (f + k)) z40 q) ∧ DiskOk crc D' S f L) ∨
    ((∀ q, D' q = lay D (1 - slot) 1 (hst crc (age + 1) (f + k)) z40 q) ∧ On crc D' S (f + k) (L.drop k) (gs.drop k) (1 - slot) (age + 1) seg used) := by
  obtain ⟨h1, h2, h3, h4⟩ := h.hd.renew hcrc w w' (by rw [h.gr]; omega) ha4 (by omega) hm
  have hsame : ∀ q, 2 ≤ q → q < beg S → D' q = D q := fun q hq _ => h1 q hq
  have hbs := beg_lt h.sgl
  have hlive : ∀ ff, live D' (beg seg) ff = live D (beg seg) ff := fun ff => live_seg fun q a b => h1 q (by omega)
  have hchain : chain D' (beg seg + 64) 65 (beg seg) none = chain D (beg seg + 64) 65 (beg seg) none := chain_seg (fun q a b => h1 q (by omega)) (Nat.le_refl _)
  have hcases : (∀ q, D' q = lay D (1 - slot) 1 (hst crc (age + 1) (f + k)) z40 q) ∨ ¬ ∀ q, D' q = lay D (1 - slot) 1 (hst crc (age + 1) (f + k)) z40 q := Classical.em _
  rcases hcases with hN | hN
  · have hall : Hd crc D' (1 - slot) (age + 1) (f + k) ∧ grt D' = age + 1 := by
      rcases h4 with h4 | ⟨_, h5, h6⟩
      · -- the whole of it is there: the other case cannot be
        have hmm : Mix D (lay D (1 - slot) 1 (hst crc (age + 1) (f + k)) z40) (lay D (1 - slot) 1 (hst crc (age + 1) (f + k)) z40) := fun q j hj => .inr rfl
        have hwl : Whole (lay D (1 - slot) 1 (hst crc (age + 1) (f + k)) z40) := lay_whole w rfl
        have hsl := h.hd.lt
        have hold : (stampOf D' (1 - slot)).age < age ∨ ¬ Hw crc D' (1 - slot) := h4.old.symm
        have hok : (hst crc (age + 1) (f + k)).ok := ⟨ha4, by show f + k < 4294967296; omega, by show (0 : Nat) < 128; omega, hcrc _⟩
        have hst' : stampOf D' (1 - slot) = hst crc (age + 1) (f + k) := by rw [stampOf_same (hN _)]; exact lay_stamp hok rfl (by omega)
        exfalso
        rcases hold with ho | ho
        · rw [hst'] at ho
          have : age + 1 < age := ho
          omega
        · refine ho ⟨fun i hi j hj => ?_, by rw [hst']; rfl, ?_⟩
          · obtain rfl : i = 0 := by omega
            rw [hst', Nat.add_zero, tagAt_same (hN _)]
            have := lay_tag (D := D) (P := 1 - slot) (c := 1) (i := 0) (j := j) (s := hst crc (age + 1) (f + k)) (t := z40) rfl (by omega) hj
            rwa [Nat.add_zero] at this
          · rw [hst', textAt_same (fun i _ => hN (1 - slot + i)), lay_text rfl]; rfl
      · exact ⟨h5, h6⟩
    refine .inr ⟨hN, hall.1, hall.2, (h.good.drop hk).same hsame, fun q a b j hj => ?_, h.sgl, h.usl, ?_⟩
    · have := h.aged q a b j hj
      unfold ageAt at this ⊢
      rw [tagAt_same (h1 q a)]
      exact ⟨by omega, fun e => by omega⟩
    · have e : f + k + (L.drop k).length = f + L.length := by rw [List.length_drop]; omega
      rw [e]
      rcases h.cur with ⟨c1, c2⟩ | ⟨c1, c2, c3⟩
      · refine .inl ⟨c1, ?_⟩
        rw [hlive]
        unfold live at c2 ⊢
        refine List.filter_eq_nil_iff.2 fun g hg => ?_
        have := List.filter_eq_nil_iff.1 c2 g hg
        simp at this ⊢; omega
      · refine .inr ?_
        rw [hchain]
        exact ⟨c1, c2, c3⟩
  · refine .inl ⟨hN, ?_⟩
    rcases h4 with h4 | ⟨h5, _, _⟩
    · refine ⟨slot, age, gs, h4, h.good.same hsame, fun q a b j hj => ?_⟩
      have := (h.aged q a b j hj).1
      rw [← h.gr] at this
      unfold ageAt at this ⊢
      rw [tagAt_same (h1 q a)]
      omega
    · exact absurd h5 hN
end
end Go.Proofs.YtelipeoilcepbaaDoor.Wl
namespace Go.Proofs.YtelipeoilcepbaaDoor.Wl
set_option linter.unusedVariables false
set_option linter.unusedSimpArgs false
theorem chain_inc {D : Disk} {E : Nat} : ∀ {k P : Nat} {nx : Option Nat}, (chain D E k P nx).Pairwise fun a b => a.s.no < b.s.no
  | 0, P, nx => List.Pairwise.nil
  | k + 1, P, nx => by
    cases hg : grp D E P with
    | none => rw [chain_none hg]; exact List.Pairwise.nil
    | some x =>
      obtain ⟨s, t⟩ := x
      cases hn : nxOk nx s.no with
      | false => rw [chain_stop hg hn]; exact List.Pairwise.nil
      | true =>
        rw [chain_some hg hn]
        refine List.Pairwise.cons (fun g hgm => ?_) chain_inc
        have key : ∀ {k P m : Nat} {g : Gp}, g ∈ chain D E k P (some m) → m ≤ g.s.no := by
          intro k
          induction k with
          | zero => intro P m g h; cases h
          | succ k ih =>
            intro P m g h
            cases hg : grp D E P with
            | none => rw [chain_none hg] at h; cases h
            | some x =>
              obtain ⟨s, t⟩ := x
              cases hn : nxOk (some m) s.no with
              | false => rw [chain_stop hg hn] at h; cases h
              | true =>
                rw [chain_some hg hn] at h
                have hm : s.no = m := of_decide_eq_true hn
                rcases List.mem_cons.1 h with rfl | h
                · show m ≤ s.no; omega
                · have := ih h; omega
        have := key hgm
        show s.no < g.s.no
        omega
theorem chain_place {D : Disk} {E : Nat} : ∀ {l r : List Gp} {g : Gp} {k P : Nat} {nx : Option Nat}, chain D E k P nx = l ++ g :: r → g.P = endP P l
  | l, r, g, 0, P, nx, h => by simp [chain] at h
  | l, r, g, k + 1, P, nx, h => by
    cases hg : grp D E P with
    | none => rw [chain_none hg] at h; simp at h
    | some x =>
      obtain ⟨s, t⟩ := x
      cases hn : nxOk nx s.no with
      | false => rw [chain_stop hg hn] at h; simp at h
      | true =>
        rw [chain_some hg hn] at h
        cases l with
        | nil =>
          rw [List.nil_append] at h
          injection h with h1 h2
          rw [← h1]; rfl
        | cons x l =>
          rw [List.cons_append] at h
          injection h with h1 h2
          subst h1
          show g.P = endP (P + s.cost) l
          exact chain_place h2
theorem chain_last {D : Disk} {B f : Nat} {l : List Gp} {g : Gp} (h : live D B f = l ++ [g]) : chain D (B + 64) 65 B none ≠ [] ∧ endP B (chain D (B + 64) 65 B none) = g.P + g.s.cost ∧ endN none (chain D (B + 64) 65 B none) = some (g.s.no + 1) := by
  obtain ⟨c, hc⟩ : ∃ c, c = chain D (B + 64) 65 B none := ⟨_, rfl⟩
  unfold live at h
  rw [← hc] at h ⊢
  have hne : c ≠ [] := by intro e; rw [e] at h; simp at h
  have hl := List.dropLast_concat_getLast hne
  obtain ⟨z, hz⟩ : ∃ z, z = c.getLast hne := ⟨_, rfl⟩
  rw [← hz] at hl
  have hinc : c.Pairwise fun a b => a.s.no < b.s.no := by rw [hc]; exact chain_inc
  have hg : g ∈ c ∧ f ≤ g.s.no := by
    have : g ∈ c.filter fun g => decide (f ≤ g.s.no) := by rw [h]; simp
    rw [List.mem_filter] at this
    exact ⟨this.1, of_decide_eq_true this.2⟩
  have hzf : f ≤ z.s.no := by
    rw [← hl] at hg hinc
    rcases List.mem_append.1 hg.1 with hm | hm
    · have := (List.pairwise_append.1 hinc).2.2 g hm z (List.mem_singleton.2 rfl)
      omega
    · obtain rfl := List.mem_singleton.1 hm
      exact hg.2
  have hzg : z = g := by
    rw [← hl, List.filter_append, List.filter_cons_of_pos (by simpa using hzf), List.filter_nil] at h
    have := List.append_inj' h rfl
    simpa using this.2
  subst hzg
  refine ⟨hne, ?_, ?_⟩
  · have hp := chain_place (l := c.dropLast) (r := []) (g := z) (by rw [← hc]; exact hl.symm)
    rw [← hl, endP_app, ← hp]
    rfl
  · rw [← hl, endN_app]; rfl
def segOf (P : Nat) : Nat := (P - 2) / 64
def lastS (gs : List Gp) : Nat := match gs.getLast? with | none => 0 | some g => segOf g.P
def lastU (gs : List Gp) : Nat := match gs.getLast? with | none => 0 | some g => g.P + g.s.cost - beg (segOf g.P)
theorem segOf_in {P sg : Nat} (h1 : beg sg ≤ P) (h2 : P < beg sg + 64) : segOf P = sg := by
  unfold segOf
  unfold beg at h1 h2
  rw [show P - 2 = 64 * sg + (P - 2 - 64 * sg) from by omega, Nat.mul_add_div (by decide), Nat.div_eq_of_lt (by omega)]; rfl
section
variable {crc : B8 → Nat} {D D' : Disk} {S f : Nat} {L : List Rec} {gs : List Gp}
theorem Good.last (h : Good crc D S f L gs) (hS : 0 < S) : lastS gs < S ∧ lastU gs ≤ 64 ∧ Cur D (beg (lastS gs)) (beg (lastS gs) + lastU gs) (f + L.length) f := by
  rcases List.eq_nil_or_concat gs with rfl | ⟨l, g, rfl⟩
  · refine ⟨hS, by decide, .inl ⟨rfl, ?_⟩⟩
    rw [show lastS [] = 0 from rfl, h.liv 0 hS]; rfl
  · rw [List.concat_eq_append] at *
    have hls : lastS (l ++ [g]) = segOf g.P := by unfold lastS; simp
    have hlu : lastU (l ++ [g]) = g.P + g.s.cost - beg (segOf g.P) := by unfold lastU; simp
    obtain ⟨sg, h1, h2, h3, h4⟩ := h.seg g (by simp)
    have e := segOf_in h2 (by omega)
    rw [hls, hlu, e]
    have hliv := h.liv sg h1
    rw [List.filter_append, List.filter_cons_of_pos (by simp; omega), List.filter_nil] at hliv
    obtain ⟨c1, c2, c3⟩ := chain_last hliv
    refine ⟨h1, by omega, .inr ⟨c1, by rw [c2]; omega, ?_⟩⟩
    rw [c3]
    have hno := h.no l.length g (by rw [List.getElem?_append_right (Nat.le_refl _), Nat.sub_self]; rfl)
    have hl := h.len
    rw [List.length_append, List.length_singleton] at hl
    congr 1; omega
theorem opened {slot a : Nat} (hcrc : ∀ t, crc t < 4294967296) (w : Whole D) (w' : Whole D') (hd : Hd crc D slot a f) (hg : Good crc D S f L gs) (ha : Aged D S (grt D)) (hS : 0 < S) (ha4 : grt D + 1 < 4294967296) (hn4 : f + L.length < 4294967296)
    (hm : Mix D (lay D (1 - slot) 1 (hst crc (grt D + 1) f) z40) D') :
    ((¬ ∀ q, D' q = lay D (1 - slot) 1 (hst crc (grt D + 1) f) z40 q) ∧ DiskOk crc D' S f L ∧ grt D' ≤ grt D + 1) ∨
    ((∀ q, D' q = lay D (1 - slot) 1 (hst crc (grt D + 1) f) z40 q) ∧ On crc D' S f L gs (1 - slot) (grt D + 1) (lastS gs) (lastU gs)) := by
  obtain ⟨h1, h2, h3, h4⟩ := hd.renew hcrc w w' (Nat.lt_succ_self _) ha4 (by omega) hm
  have hsame : ∀ q, 2 ≤ q → q < beg S → D' q = D q := fun q hq _ => h1 q hq
  have hg' := hg.same hsame
  rcases h4 with h4 | ⟨h5, h6, h7⟩
  · by_cases hN : ∀ q, D' q = lay D (1 - slot) 1 (hst crc (grt D + 1) f) z40 q
    · exfalso
      have hok : (hst crc (grt D + 1) f).ok := ⟨ha4, by show f < 4294967296; omega, by show (0 : Nat) < 128; omega, hcrc _⟩
      have hst' : stampOf D' (1 - slot) = hst crc (grt D + 1) f := by rw [stampOf_same (hN _)]; exact lay_stamp hok rfl (by omega)
      have hsl := hd.lt
      have hag : a ≤ grt D := by
        have := age_grt D hsl (j := 0) (by omega)
        rw [← age_stamp, hd.age] at this
        exact this
      rcases h4.old with ho | ho
      · refine ho ⟨fun i hi j hj => ?_, by rw [hst']; rfl, ?_⟩
        · obtain rfl : i = 0 := by omega
          rw [hst', Nat.add_zero, tagAt_same (hN _)]
          have := lay_tag (D := D) (P := 1 - slot) (c := 1) (i := 0) (j := j) (s := hst crc (grt D + 1) f) (t := z40) rfl (by omega) hj
          rwa [Nat.add_zero] at this
        · rw [hst', textAt_same (fun i _ => hN (1 - slot + i)), lay_text rfl]; rfl
      · rw [hst'] at ho
        have : grt D + 1 < a := ho
        omega
    · refine .inl ⟨hN, ⟨slot, a, gs, h4, hg', fun q a b j hj => ?_⟩, h3⟩
      have := ha q a b j hj
      unfold ageAt at this ⊢
      rw [tagAt_same (h1 q a)]
      omega
  · obtain ⟨c1, c2, c3⟩ := hg'.last hS
    refine .inr ⟨h5, h6, h7, hg', fun q a b j hj => ?_, c1, c2, c3⟩
    have := ha q a b j hj
    unfold ageAt at this ⊢
    rw [tagAt_same (h1 q a)]
    exact ⟨by omega, fun e => by omega⟩
noncomputable def found (D : Disk) (S f : Nat) : List Gp := (List.range S).flatMap fun sg => live D (beg sg) f
theorem flat_app_perm {α β : Type} (F G : α → List β) : ∀ l : List α, (l.flatMap fun x => F x ++ G x).Perm (l.flatMap F ++ l.flatMap G)
  | [] => List.Perm.refl _
  | x :: l => by
    rw [List.flatMap_cons, List.flatMap_cons, List.flatMap_cons]
    have ih := flat_app_perm F G l
    have h1 : (F x ++ G x ++ l.flatMap fun x => F x ++ G x).Perm (F x ++ G x ++ (l.flatMap F ++ l.flatMap G)) := ih.append_left _
    refine h1.trans ?_
    rw [List.append_assoc, List.append_assoc]
    refine List.Perm.append_left _ ?_
    rw [← List.append_assoc, ← List.append_assoc]
    exact (List.perm_append_comm).append_right _
theorem one_seg {g : Gp} : ∀ {S : Nat}, (∃ sg, sg < S ∧ beg sg ≤ g.P ∧ g.P < beg sg + 64) → ((List.range S).flatMap fun sg => if beg sg ≤ g.P ∧ g.P < beg sg + 64 then [g] else []) = [g]
  | 0, ⟨sg, h, _⟩ => by omega
  | S + 1, ⟨sg, h, h1, h2⟩ => by
    rw [List.range_succ, List.flatMap_append]
    by_cases e : sg = S
    · subst e
      have : ((List.range sg).flatMap fun b => if beg b ≤ g.P ∧ g.P < beg b + 64 then [g] else []) = [] := List.flatMap_eq_nil_iff.2 fun b hb => by
        rw [if_neg]
        intro hc
        have := beg_off h1 h2 hc.1 hc.2
        have := List.mem_range.1 hb
        omega
      rw [this]
      simp [h1, h2]
    · rw [one_seg (S := S) ⟨sg, by omega, h1, h2⟩]
      have : ¬ (beg S ≤ g.P ∧ g.P < beg S + 64) := fun hc => e (beg_off h1 h2 hc.1 hc.2)
      simp [this]
theorem segs_perm : ∀ {gs : List Gp} {S : Nat}, (∀ g ∈ gs, ∃ sg, sg < S ∧ beg sg ≤ g.P ∧ g.P < beg sg + 64) → ((List.range S).flatMap fun sg => gs.filter fun g => decide (beg sg ≤ g.P ∧ g.P < beg sg + 64)).Perm gs
  | [], S, _ => by simp
  | g :: gs, S, h => by
    have e : ((List.range S).flatMap fun sg => (g :: gs).filter fun g => decide (beg sg ≤ g.P ∧ g.P < beg sg + 64)) = (List.range S).flatMap fun sg => (if beg sg ≤ g.P ∧ g.P < beg sg + 64 then [g] else []) ++ gs.filter fun g => decide (beg sg ≤ g.P ∧ g.P < beg sg + 64) := by
      congr 1
      funext sg
      rw [List.filter_cons]
      by_cases c : beg sg ≤ g.P ∧ g.P < beg sg + 64
      · rw [if_pos (by simpa using c), if_pos c]; rfl
      · rw [if_neg (by simpa using c), if_neg c]; rfl
    rw [e]
    refine (flat_app_perm _ _ _).trans ?_
    rw [one_seg (h g (List.mem_cons_self ..))]
    exact (segs_perm fun x hx => h x (List.mem_cons_of_mem _ hx)).cons g
theorem Good.found (h : Good crc D S f L gs) : (found D S f).Perm gs := by
  have e : Wl.found D S f = (List.range S).flatMap fun sg => gs.filter fun g => decide (beg sg ≤ g.P ∧ g.P < beg sg + 64) := by
    unfold Wl.found
    rw [List.flatMap_def, List.flatMap_def]
    congr 1
    exact List.map_congr_left fun sg hs => h.liv sg (List.mem_range.1 hs)
  rw [e]
  exact segs_perm fun g hg => by
    obtain ⟨sg, h1, h2, h3, h4⟩ := h.seg g hg
    exact ⟨sg, h1, h2, by omega⟩
theorem Good.sorted (h : Good crc D S f L gs) : gs.Pairwise fun a b => a.s.no < b.s.no := by
  rw [List.pairwise_iff_getElem]
  intro i j hi hj hij
  rw [h.no i gs[i] (List.getElem?_eq_getElem hi), h.no j gs[j] (List.getElem?_eq_getElem hj)]
  omega
theorem sort_one : ∀ {a b : List Gp}, a.Perm b → a.Pairwise (fun x y => x.s.no ≤ y.s.no) → b.Pairwise (fun x y => x.s.no < y.s.no) → a = b
  | [], b, h, _, _ => by rw [List.nil_perm.1 h]
  | x :: a, b, h, ha, hb => by
    match b, h, hb with
    | [], h, _ => exact absurd h.length_eq (by simp)
    | y :: b, h, hb =>
      have hx : x ∈ y :: b := h.mem_iff.1 (List.mem_cons_self ..)
      have hy : y ∈ x :: a := h.mem_iff.2 (List.mem_cons_self ..)
      have e : x = y := by
        rcases List.mem_cons.1 hx with e | hx
        · exact e
        · rcases List.mem_cons.1 hy with e | hy
          · exact e.symm
          · have h1 := (List.pairwise_cons.1 ha).1 y hy
            have h2 := (List.pairwise_cons.1 hb).1 x hx
            omega
      subst e
      rw [sort_one (List.Perm.cons_inv h) (List.pairwise_cons.1 ha).2 (List.pairwise_cons.1 hb).2]
end
end Go.Proofs.YtelipeoilcepbaaDoor.Wl
namespace Go.Proofs.YtelipeoilcepbaaDoor
open Go.RowKit
set_option linter.unusedVariables false
set_option linter.unusedSimpArgs false
section
variable {P : Program} {st et : TypeId} {k by_ : Nat} {z : Value}
end
end Go.Proofs.YtelipeoilcepbaaDoor
namespace Go.Proofs.YtelipeoilcepbaaDoor
section
variable {P : Program} {md : Region.Mode} {ops : Array Oper} {Q : Exit → Act → World → Prop} {S : World → Prop}
def Alw (P : Program) (md : Region.Mode) (ops : Array Oper) (Q : Exit → Act → World → Prop) (S : World → Prop) : Nat → Array Bool → Act → World → Prop
  | 0, l, a, w => Region.ready md ops l = [] ∧ Q .normal a w
  | n + 1, l, a, w => (Region.ready md ops l = [] → Q .normal a w) ∧
      ∀ i ∈ Region.ready md ops l, wpOp P ops Q i (fun a' w' => S w' ∧ Alw P md ops Q S n (l.setIfInBounds i true) a' w') a w
theorem alw_any : ∀ (n : Nat) (l : Array Bool) (a : Act) (w : World), Alw P md ops Q S n l a w → wpAny P md ops Q n l a w
  | 0, _, _, _, h => h
  | n + 1, _, _, _, h => ⟨h.1, fun i hi => wpOp_mono (fun _ _ h' => alw_any n _ _ _ h'.2) (h.2 i hi)⟩
theorem alw_first {i : Nat} {o : Oper} {v : Value} (hi : ops[i]? = some o) (hsel : ∀ (j : Nat) (o : Oper) cs b, ops[j]? = some o → o.op ≠ .select cs b) :
    ∀ (n : Nat) (l : Array Bool) (a : Act) (w : World),
      (∀ j oj, ops[j]? = some oj → j ≠ i → l.getD j true = false → (∀ e ∈ oj.after, Region.binds md e = true → e.on ≠ i) → o.apart ops oj = true) →
      i ∈ Region.ready md ops l → YieldsIf P ops S o v a → S w → (∀ c a w, Q (.panic c) (a.put o.dst v) w → Q (.panic c) a w) →
      Alw P md ops Q S n (l.setIfInBounds i true) (a.put o.dst v) w → Alw P md ops Q S (n + 1) l a w := by
  have hread : ∀ (l : Array Bool) (j : Nat), i ∈ Region.ready md ops l → j ∈ Region.ready md ops l → j ≠ i → ∃ oj, ops[j]? = some oj ∧ l.getD j true = false ∧ ∀ e ∈ oj.after, Region.binds md e = true → e.on ≠ i := by
    intro l j hr hj hji
    obtain ⟨h0, oj, hoj, hall⟩ := mem_ready.1 hj
    have hun := (mem_ready.1 hr).1
    refine ⟨oj, hoj, h0, fun e he hb heq => ?_⟩
    have h2 := hall e he hb
    rw [heq] at h2
    rcases Nat.lt_or_ge i l.size with hlt | hge
    · rw [Array.getD_eq_getD_getElem?, Array.getElem?_eq_getElem hlt] at h2 hun
      simp only [Option.getD_some] at h2 hun
      rw [h2] at hun
      cases hun
    · rw [Array.getD_eq_getD_getElem?, Array.getElem?_eq_none hge] at h2
      cases h2
  intro n
  induction n with
  | zero =>
    intro l a w _ hr hy hS _ H
    refine ⟨fun h => (by rw [h] at hr; cases hr), fun j hj => ?_⟩
    by_cases hji : j = i
    · subst hji
      exact hy.wpOp hi hS ⟨hS, H⟩
    · have := ready_mono hj hji
      rw [H.1] at this
      cases this
  | succ n ih =>
    intro l a w hfree hr hy hS hQ H
    refine ⟨fun h => (by rw [h] at hr; cases hr), fun j hj => ?_⟩
    by_cases hji : j = i
    · subst hji
      exact hy.wpOp hi hS ⟨hS, H⟩
    · obtain ⟨oj, hoj, hjun, hno⟩ := hread l j hr hj hji
      have h1 := H.2 j (ready_mono hj hji)
      have h2 := wpOp_putIf hoj (hfree j oj hoj hji hjun hno) (fun cs b => hsel i o cs b hi) (fun cs b => hsel j oj cs b hoj) hQ hy h1
      refine wpOp_mono (fun a' w' h3 => ⟨h3.2.1, ih (l.setIfInBounds j true) a' w' ?_ (ready_mono hr (Ne.symm hji)) h3.1 h3.2.1 hQ ?_⟩) h2
      · intro m om hm hmi hun hn
        refine hfree m om hm hmi ?_ hn
        by_cases hjm : j = m
        · subst hjm
          exact hjun
        · rwa [getD_set_ne true hjm] at hun
      · rw [Array.setIfInBounds_comm _ _ hji]
        exact h3.2.2
theorem alw_take {i : Nat} {o : Oper} {v : Value} {n : Nat} {l : Array Bool} {a : Act} {w : World} (hi0 : ops.toList[i]? = some o) (hs : Region.noSelect ops = true)
    (hf : (Region.free md ops l i && (Region.ready md ops l).contains i) = true)
    (hQ : ∀ c a w, Q (.panic c) (a.put o.dst v) w → Q (.panic c) a w) (hy : YieldsIf P ops S o v a) (hS : S w)
    (h : Alw P md ops Q S n (l.setIfInBounds i true) (a.put o.dst v) w) : Alw P md ops Q S (n + 1) l a w := by
  have hi : ops[i]? = some o := by rw [← hi0, Array.getElem?_toList]
  simp only [Bool.and_eq_true] at hf
  exact alw_first hi (Region.noSelect_spec hs) n l a w (Region.free_spec hi hf.1) (by simpa using hf.2) hy hS hQ h
theorem alw_step {i : Nat} {o : Oper} {n : Nat} {l : Array Bool} {a : Act} {w : World} (hr : Region.ready md ops l = [i]) (ho0 : ops.toList[i]? = some o) (hw : Region.wanted o (yielded ops a.tmps) = true)
    (h : ∀ K : Act → World → Prop, Shut (∀ a' w', (S w' ∧ Alw P md ops Q S n (l.setIfInBounds i true) a' w') → K a' w') → o.wp P a w K Q) : Alw P md ops Q S (n + 1) l a w := by
  have ho : ops[i]? = some o := by rw [← ho0, Array.getElem?_toList]
  refine ⟨fun h0 => (by rw [h0] at hr; cases hr), fun j hj => ?_⟩
  rw [hr] at hj
  obtain rfl : j = i := by simpa using hj
  unfold wpOp
  simp only [ho, hw, if_true]
  exact .inl (h _ fun _ _ h' => h')
theorem alw_done {n : Nat} {l : Array Bool} {a : Act} {w : World} (hr : Region.ready md ops l = []) (h : Q .normal a w) : Alw P md ops Q S n l a w := by
  cases n with
  | zero => exact ⟨hr, h⟩
  | succ n => exact ⟨fun _ => h, fun j hj => by rw [hr] at hj; cases hj⟩
theorem wp_region_alw (S : World → Prop) {id : Nat} {a : Act} {w : World} (hm : P.follows .mixedOrders = true)
    (h : Alw P .any ops (NoPanic Q) S ops.size (Array.replicate ops.size false) a w.drew) : (Code.region id ops true).wp P Q a w :=
  wp_region_noPanic (wp_region_any hm (alw_any _ _ _ _ h))
end
end Go.Proofs.YtelipeoilcepbaaDoor
namespace Go.Proofs.YtelipeoilcepbaaDoor
open Go.RowKit
set_option linter.unusedVariables false
set_option linter.unusedSimpArgs false
theorem wpList_new {P : Program} {ops : Array Oper} {rest : List Oper} {o1 o2 : Oper} {a : Act} {w : World} {Q : Exit → Act → World → Prop} {zs : Array Value} (ty : TypeId) (x y : Operand) (cells : Array Value)
    (hg1 : Region.wanted o1 (yielded ops a.tmps) = true) (ho1 : o1.op = .alloc ty) (hz : (zeroValue ty).run P w = .ok (.agg zs) w) (hzs : (Value.agg zs).cells = zs)
    (hg2 : Region.wanted o2 (yielded ops (a.put o1.dst (.pointer (some ⟨w.heap.size, 0, none⟩))).tmps) = true) (ho2 : o2.op = .store ty x y)
    (hx : (a.put o1.dst (.pointer (some ⟨w.heap.size, 0, none⟩))).eval x = .pointer (some ⟨w.heap.size, 0, none⟩)) (hy : (a.put o1.dst (.pointer (some ⟨w.heap.size, 0, none⟩))).eval y = .agg cells)
    (hs : zs.size = cells.size) (hi : (P.info? ty).map (·.size) = some cells.size) (h1 : ∀ v ∈ cells.toList, v.oneCell' = true)
    (h : ∀ w' g, w.heap.size ≤ g → Blk w' g ty cells → Turn nowhere w w' → wpList P ops Q rest ((a.put o1.dst (.pointer (some ⟨g, 0, none⟩))).put o2.dst undef) w') : wpList P ops Q (o1 :: o2 :: rest) a w := by
  have hb := Blk.new w ty (Value.agg zs).cells
  have hu := (Turn.refl nowhere w).alloc (.cells (Value.agg zs).cells ty)
  refine wpList_run hg1 (gx_alloc ho1 hz) ?_
  refine wpList_store_row hg2 ty x y ho2 cells hb hx hy (by rw [hzs]; exact hs) hi h1 fun w' hb' hu' => ?_
  refine h w' _ (Nat.le_refl _) hb' (hu.trans hu' fun k hk e => ?_)
  have e : k = w.heap.size := e
  omega
theorem bx_slice0 {P : Program} {a : Act} {o : Oper} {t : TypeId} {q : Value} {W W' : World} (ho : o.op = .buildSlice t 0 #[])
    (h : (Instr.buildSlice t 0 #[]).run P W = .ok q W') : (execOp a.eval o).run P W = .ok (.value q) W' := by
  unfold execOp
  simp only [ho, List.map_toArray, List.map_nil, h, Sem.run_bind, Sem.run_pure, Result.andThen_ok]
end Go.Proofs.YtelipeoilcepbaaDoor
namespace Go.Proofs.YtelipeoilcepbaaDoor
open Go.RowKit
set_option linter.unusedVariables false
set_option linter.unusedSimpArgs false
section
variable {a : Act} {o : Oper} {W : World} {x y : Operand} {i j : Int}
theorem ix_lss {r : Bool} (ho : o.op = .binOp .lss 3 x y 3) (hx : a.eval x = .int .i64 i) (hy : a.eval y = .int .i64 j) (h : decide (i < j) = r) : (execOp a.eval o).run Tryd.prog W = .ok (.value (.bool r)) W := by
  subst h
  unfold execOp
  simp only [ho, hx, hy]
  go_simp
theorem ix_leq {r : Bool} (ho : o.op = .binOp .leq 3 x y 3) (hx : a.eval x = .int .i64 i) (hy : a.eval y = .int .i64 j) (h : decide (i ≤ j) = r) : (execOp a.eval o).run Tryd.prog W = .ok (.value (.bool r)) W := by
  subst h
  unfold execOp
  simp only [ho, hx, hy]
  go_simp
theorem ix_gtr {r : Bool} (ho : o.op = .binOp .gtr 3 x y 3) (hx : a.eval x = .int .i64 i) (hy : a.eval y = .int .i64 j) (h : decide (j < i) = r) : (execOp a.eval o).run Tryd.prog W = .ok (.value (.bool r)) W := by
  subst h
  unfold execOp
  simp only [ho, hx, hy]
  go_simp
theorem ix_geq {r : Bool} (ho : o.op = .binOp .geq 3 x y 3) (hx : a.eval x = .int .i64 i) (hy : a.eval y = .int .i64 j) (h : decide (j ≤ i) = r) : (execOp a.eval o).run Tryd.prog W = .ok (.value (.bool r)) W := by
  subst h
  unfold execOp
  simp only [ho, hx, hy]
  go_simp
theorem ix_eql {t u : TypeId} {r : Bool} (ho : o.op = .binOp .eql t x y u) (hx : a.eval x = .int .i64 i) (hy : a.eval y = .int .i64 j) (h : decide (i = j) = r) : (execOp a.eval o).run Tryd.prog W = .ok (.value (.bool r)) W := by
  subst h
  unfold execOp
  simp [ho, hx, hy, eqGuard]
  go_simp
  by_cases hij : i = j <;> simp [hij]
theorem ix_neq {t u : TypeId} {r : Bool} (ho : o.op = .binOp .neq t x y u) (hx : a.eval x = .int .i64 i) (hy : a.eval y = .int .i64 j) (h : decide (i ≠ j) = r) : (execOp a.eval o).run Tryd.prog W = .ok (.value (.bool r)) W := by
  subst h
  unfold execOp
  simp [ho, hx, hy, eqGuard]
  go_simp
  by_cases hij : i = j <;> simp [hij]
theorem ix_add {r : Int} (ho : o.op = .binOp .add 3 x y 3) (hx : a.eval x = .int .i64 i) (hy : a.eval y = .int .i64 j) (h : i + j = r) (hb : -9223372036854775808 ≤ r ∧ r ≤ 9223372036854775807) : (execOp a.eval o).run Tryd.prog W = .ok (.value (.int .i64 r)) W := by
  have hw : IntKind.i64.wrap r = r := by rw [IntKind.wrap_i64]; omega
  unfold execOp
  simp only [ho, hx, hy]
  go_simp
  try exact hw
theorem ix_sub {r : Int} (ho : o.op = .binOp .sub 3 x y 3) (hx : a.eval x = .int .i64 i) (hy : a.eval y = .int .i64 j) (h : i - j = r) (hb : -9223372036854775808 ≤ r ∧ r ≤ 9223372036854775807) : (execOp a.eval o).run Tryd.prog W = .ok (.value (.int .i64 r)) W := by
  have hw : IntKind.i64.wrap r = r := by rw [IntKind.wrap_i64]; omega
  unfold execOp
  simp only [ho, hx, hy]
  go_simp
  try exact hw
theorem ix_mul {r : Int} (ho : o.op = .binOp .mul 3 x y 3) (hx : a.eval x = .int .i64 i) (hy : a.eval y = .int .i64 j) (h : i * j = r) (hb : -9223372036854775808 ≤ r ∧ r ≤ 9223372036854775807) : (execOp a.eval o).run Tryd.prog W = .ok (.value (.int .i64 r)) W := by
  have hw : IntKind.i64.wrap r = r := by rw [IntKind.wrap_i64]; omega
  unfold execOp
  simp only [ho, hx, hy]
  go_simp
  try (rw [h]; exact hw)
theorem ix_shr8 {n : Nat} {tu : TypeId} (ho : o.op = .binOp .shr 3 x (.const (.int .u64 8)) tu) (hx : a.eval x = .int .i64 (n : Int)) (hn : n ≤ 9223372036854775807) : (execOp a.eval o).run Tryd.prog W = .ok (.value (.int .i64 ((n / 256 : Nat) : Int))) W := by
  unfold execOp
  simp only [ho, hx]
  go_simp
theorem ix_b2i {k : Nat} (hk : k < 256) (ho : o.op = .convert 5 3 x) (hx : a.eval x = .int .u8 (k : Int)) : (execOp a.eval o).run Tryd.prog W = .ok (.value (.int .i64 (k : Int))) W := by
  unfold execOp
  simp only [ho, hx]
  go_simp
  rw [IntKind.wrap_i64]
  omega
theorem ix_i2b {k : Nat} (ho : o.op = .convert 3 5 x) (hx : a.eval x = .int .i64 (k : Int)) : (execOp a.eval o).run Tryd.prog W = .ok (.value (.int .u8 (((UInt8.ofNat k).toNat : Nat) : Int))) W := by
  unfold execOp
  simp only [ho, hx]
  go_simp
  simp [IntKind.wrap, IntKind.bits, IntKind.signed]
theorem ix_not {t : TypeId} {b : Bool} (ho : o.op = .unOp .not t x) (hx : a.eval x = .bool b) : (execOp a.eval o).run Tryd.prog W = .ok (.value (.bool (!b))) W := by
  unfold execOp
  simp only [ho, hx]
  go_simp
theorem ix_pickT {c : Operand} {v : Value} (ho : o.op = .pick c x y) (hc : a.eval c = .bool true) (hx : a.eval x = v) : (execOp a.eval o).run Tryd.prog W = .ok (.value v) W := by
  unfold execOp
  simp [ho, hc, hx, asBool, Result.andThen]
theorem ix_pickF {c : Operand} {v : Value} (ho : o.op = .pick c x y) (hc : a.eval c = .bool false) (hy : a.eval y = v) : (execOp a.eval o).run Tryd.prog W = .ok (.value v) W := by
  unfold execOp
  simp [ho, hc, hy, asBool, Result.andThen]
theorem ix_extract {n : Nat} {vs : Array Value} {v : Value} (ho : o.op = .extract x n) (hx : a.eval x = .tuple vs) (hv : vs[n]? = some v) : (execOp a.eval o).run Tryd.prog W = .ok (.value v) W := by
  unfold execOp
  simp only [ho, hx]
  go_simp
end
end Go.Proofs.YtelipeoilcepbaaDoor
namespace Go.Proofs.YtelipeoilcepbaaDoor
open Go.RowKit
set_option linter.unusedVariables false
set_option linter.unusedSimpArgs false
theorem wanted_none {o : Oper} {y : Nat → Option Bool} (h : o.guard = none) : Region.wanted o y = true := by
  unfold Region.wanted
  rw [h]
theorem wpList_op {P : Program} {ops : Array Oper} {rest : List Oper} {o : Oper} {a : Act} {w : World} {Q : Exit → Act → World → Prop} (hgd : Region.wanted o (yielded ops a.tmps) = true) (h : ∀ K : Act → World → Prop, Hid (∀ a' w', wpList P ops Q rest a' w' → K a' w') → o.wp P a w K Q) : wpList P ops Q (o :: rest) a w :=
  wpList_step fun K hK => by
    rw [if_pos hgd]
    exact h K (Lib.hid hK)
section
variable {P : Program} {a : Act} {o : Oper} {W W' : World}
theorem exec_copy {t : TypeId} {x y : Operand} {u v r : Value} (ho : o.op = .call { callee := .builtin .copy, args := #[x, y], argTypes := #[t, t] }) (hx : a.eval x = u) (hy : a.eval y = v) (hr : (Builtin.copy_ #[t, t] o.type #[u, v]).run P W = .ok r W') :
    (execOp a.eval o).run P W = .ok (.value r) W' := by
  unfold execOp
  simp only [ho, resolve, invoke, builtin, Sem.run_bind, Sem.run_pure, Result.andThen_ok, List.map_toArray, List.map_cons, List.map_nil, hx, hy, hr]
theorem gx_loads {ty : TypeId} {x : Operand} {b off : Nat} {cs : List Value} {d : TypeDesc} (ho : o.op = .load ty x) (hx : a.eval x = .pointer (some ⟨b, off, none⟩)) (hr : W.rangeAt b off cs)
    (hu : P.underlying ty = some d) (hd : d.isRow = true) (hi : (P.info? ty).map (·.size) = some cs.length) : (execOp a.eval o).run P W = .ok (.value (.agg cs.toArray)) W :=
  exec_load ho hx (run_loadAt_mid W b off ty cs d hr hu hd hi)
end
theorem blk_range {W : World} {g : Nat} {t : TypeId} {cs : Array Value} (h : Blk W g t cs) : W.rangeAt g 0 cs.toList := fun j v hj => by
  rw [Nat.zero_add, h.cell j]
  simpa using hj
theorem Orw.el {w : World} {B b k n c : Nat} {et : TypeId} {rs : List (List Value)} (h : Orw w B et k (.slice (some ⟨b, 0, none⟩) n c) rs) {i : Nat} {r : List Value} (hr : rs[i]? = some r) : w.rangeAt b (i * k) r := fun j u hu => by
  have hk := (h.1 r (List.mem_of_getElem? hr)).1
  have hj : j < k := by
    have := (List.getElem?_eq_some_iff.1 hu).1
    rwa [hk] at this
  have hf := flat_at h.1 hr hj
  rw [hu] at hf
  have := World.ownsRow.cells (g := b) h.2 rfl (i * k + j) u hf
  rwa [add_nat, Nat.zero_add] at this
theorem Orw.some_ {w : World} {B k : Nat} {et : TypeId} {v : Value} {rs : List (List Value)} (h : Orw w B et k v rs) (h0 : 0 < rs.length) : ∃ b c, v = .slice (some ⟨b, 0, none⟩) rs.length c ∧ rs.length ≤ c ∧ c ≤ maxLen := by
  rcases h.2.2 with ⟨rfl, h1⟩ | ⟨g, cap, cur, rfl, hb1, hg, h1, h2, _⟩
  · omega
  · exact ⟨g, cap, rfl, h1, h2⟩
theorem wpList_storeU {P : Program} {ops : Array Oper} {rest : List Oper} {o : Oper} {a : Act} {w : World} {Q : Exit → Act → World → Prop} (i : Nat) (v : Value) (hgd : Region.wanted o (yielded ops a.tmps) = true) (ty : TypeId) (x y : Operand) (ho : o.op = .store ty x y) {g : Nat} {t : TypeId} {old : Array Value} (hb : Blk w g t old)
    (hx : a.eval x = .pointer (some ⟨g, i, none⟩)) (hy : a.eval y = v) (hi : i < old.size) (hv : v.cells = #[v] ∧ v.oneCell' = true) (hsz : (P.info? ty).map (·.size) = some 1)
    (h : ∀ w', Blk w' g t (old.setIfInBounds i v) → Turn (only g) w w' → wpList P ops Q rest (a.put o.dst undef) w') : wpList P ops Q (o :: rest) a w :=
  wpList_store1 hgd ty x y ho hb hx hy hi hv.1 hv.2 hsz (h _)
theorem Orw.own_blk {w : World} {B k : Nat} {et : TypeId} {v : Value} {rs : List (List Value)} (h : Orw w B et k v rs) {b : Nat} (hb : v.ownBlock = some b) : ∃ cur, Blk w b et cur := by
  rcases h.2.2 with ⟨rfl, _⟩ | ⟨g, cap, cur, rfl, _, hg, _⟩
  · cases hb
  · obtain rfl : g = b := Option.some.inj hb
    exact ⟨cur, hg⟩
theorem orw_set {w w' : World} {B k b n c i : Nat} {et : TypeId} {rs : List (List Value)} {r : List Value} {cur cur' : Array Value} (h : Orw w B et k (.slice (some ⟨b, 0, none⟩) n c) rs) (hb : Blk w b et cur) (hb' : Blk w' b et cur') (hs : cur'.size = cur.size) (hi : i < n)
    (hr : r.length = k) (h1 : ∀ u ∈ r, u.oneCell' = true) (hc : ∀ j, cur'[j]? = if i * k ≤ j ∧ j < i * k + k then r[j - i * k]? else cur[j]?) (hk : 0 < k) : Orw w' B et k (.slice (some ⟨b, 0, none⟩) n c) (rs.set i r) := by
  obtain ⟨cur0, hcur, hcs, htake, hn, hnc, hcm, hB⟩ := orw_block h
  obtain rfl := hcur.inj hb
  have hf : Fit k (rs.set i r) := fun x hx => by
    rcases List.mem_or_eq_of_mem_set hx with hx | rfl
    · exact h.1 x hx
    · exact ⟨hr, h1⟩
  refine orw_of hb' hB hf (by rw [List.length_set]; exact hn) hnc hcm (hs.trans hcs) ?_
  apply List.ext_getElem?
  intro j
  by_cases hj : j < n * k
  · rw [List.getElem?_take, if_pos hj, Array.getElem?_toList, hc]
    have hd : j / k < n := (Nat.div_lt_iff_lt_mul hk).2 hj
    have hjj : j = j / k * k + j % k := by rw [Nat.mul_comm]; exact (Nat.div_add_mod j k).symm
    have hm := Nat.mod_lt j hk
    have old : rs.flatten[j]? = cur0[j]? := by
      rw [← htake, List.getElem?_take, if_pos hj, Array.getElem?_toList]
    by_cases hij : j / k = i
    · have e1 : i * k ≤ j ∧ j < i * k + k := by rw [← hij]; omega
      rw [if_pos e1]
      have hx : (rs.set i r)[j / k]? = some r := by rw [hij, List.getElem?_set_self (by omega)]
      have := flat_at hf hx hm
      rw [← hjj] at this
      rw [this, ← hij]
      congr 1
      omega
    · have e1 : ¬ (i * k ≤ j ∧ j < i * k + k) := by
        rintro ⟨e1, e2⟩
        apply hij
        have h1 : i ≤ j / k := (Nat.le_div_iff_mul_le hk).2 e1
        have h2 : j / k < i + 1 := (Nat.div_lt_iff_lt_mul hk).2 (by rw [Nat.succ_mul]; exact e2)
        omega
      rw [if_neg e1, ← old]
      have hx0 : rs[j / k]? = some rs[j / k] := List.getElem?_eq_getElem (by omega)
      have hx : (rs.set i r)[j / k]? = some rs[j / k] := by rw [List.getElem?_set_ne (fun e => hij e.symm)]; exact hx0
      have a1 := flat_at hf hx hm
      have a2 := flat_at h.1 hx0 hm
      rw [← hjj] at a1 a2
      rw [a1, a2]
  · rw [List.getElem?_eq_none (by rw [List.length_take]; omega), List.getElem?_eq_none (by rw [flat_len hf, List.length_set, hn]; omega)]
theorem gx_box {P : Program} {a : Act} {o : Oper} {t : TypeId} {x : Operand} {cs : Array Value} {W W' : World} {v : Value} (ho : o.op = .box t x) (hx : a.eval x = .agg cs) (h : (Instr.box t (.agg cs)).run P W = .ok v W') : (execOp a.eval o).run P W = .ok (.value v) W' := by
  unfold execOp
  simp only [ho, hx, h, Sem.run_bind, Sem.run_pure, Result.andThen_ok]
theorem gx_build0 {P : Program} {a : Act} {o : Oper} {t : TypeId} {r : Value} {W : World} (ho : o.op = .build t #[]) (h : (Instr.build t #[]).run P W = .ok r W) : (execOp a.eval o).run P W = .ok (.value r) W := by
  unfold execOp
  simp only [ho, List.map_toArray, List.map_nil, h, Sem.run_bind, Sem.run_pure, Result.andThen_ok]
theorem gx_max {a : Act} {o : Oper} {W : World} {x y : Operand} {t u : TypeId} {i j r : Int} (ho : o.op = .call { callee := .builtin .max, args := #[x, y], argTypes := #[t, u] }) (hx : a.eval x = .int .i64 i) (hy : a.eval y = .int .i64 j) (ht : o.type = 3) (hr : (if i < j then j else i) = r) : (execOp a.eval o).run Tryd.prog W = .ok (.value (.int .i64 r)) W := by
  subst hr
  unfold execOp
  simp only [ho, ht, resolve, invoke, builtin, List.map_toArray, List.map_cons, List.map_nil, hx, hy]
  by_cases h : i < j
  · rw [if_pos h]; go_simp; try omega
  · rw [if_neg h]; go_simp; try omega
end Go.Proofs.YtelipeoilcepbaaDoor
