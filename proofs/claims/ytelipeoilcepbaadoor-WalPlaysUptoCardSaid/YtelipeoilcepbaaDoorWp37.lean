/-
  Texts in one file: WmPb WmCrB WmPc WmRoC. Conditions: the tables and the errors read as the program's text lays them.
-/
import Derived.Test.YtelipeoilcepbaaDoorWp0
import Derived.Test.YtelipeoilcepbaaDoorWp31
import Derived.Test.YtelipeoilcepbaaDoorWp36
namespace Go.Proofs.YtelipeoilcepbaaDoor
open Go.RowKit
open Wl (B8 Gp)
set_option linter.unusedVariables false
set_option linter.unusedSimpArgs false
set_option maxRecDepth 20000
theorem Fit9.nil (v : WalV) : Fit9 v [] [] := ⟨fun i g h hg _ => (by simp at hg), fun g hg => (by cases hg), fun g hg => (by simp at hg), fun i g l hg _ => (by simp at hg)⟩
theorem Fit9.append {v : WalV} {gs : List Gp} {L : List Wl.Rec} (h : Fit9 v gs L) (hn : gs.length = L.length) {l : Wl.Rec} {sg us c : Nat} {g : Gp} (hp : v.pick c = some (sg, us)) (hc : 0 < c) (hus : us + c ≤ 64) (hP : g.P = 2 + 64 * sg + us) (hg : g.s.cost = c) (hl : c = Wl.cost l) : Fit9 (v.add (2 + 64 * sg + us) c) (gs ++ [g]) (L ++ [l]) := by
  have hsg : seg9 g = sg := by unfold seg9; omega
  have hen : end9 g = us + c := by unfold end9; rw [hsg]; omega
  refine ⟨fun i a b ha hb => ?_, fun a ha => ?_, fun a ha => ?_, fun i a x ha hx => ?_⟩
  · by_cases h1 : i + 1 < gs.length
    · rw [List.getElem?_append_left (by omega)] at ha hb
      exact h.nb i a b ha hb
    · have h2 := (List.getElem?_eq_some_iff.1 hb).1
      rw [List.length_append] at h2
      have h2 : i + 1 < gs.length + 1 := h2
      rw [List.getElem?_append_right (by omega), show i + 1 - gs.length = 0 from by omega] at hb
      obtain rfl : g = b := Option.some.inj hb
      rw [List.getElem?_append_left (by omega)] at ha
      have h3 : gs.getLast? = some a := by rw [List.getLast?_eq_getElem?, show gs.length - 1 = i from by omega]; exact ha
      obtain ⟨e1, e2⟩ := h.last a h3
      have h4 := h.two a (List.mem_of_getElem? ha)
      unfold WalV.pick at hp
      split at hp
      · injection hp with hp
        injection hp with p1 p2
        subst p1 p2
        refine .inl ⟨?_, by rw [hsg, e1]⟩
        rw [hP, e1, e2]
        unfold end9 seg9
        omega
      · next hno =>
        obtain ⟨y, _, e⟩ := Option.map_eq_some_iff.1 hp
        injection e with p1 p2
        subst p2
        refine .inr ⟨by rw [hP, hsg]; omega, ?_⟩
        rw [← e2, hg]
        omega
  · rcases List.mem_append.1 ha with ha | ha
    · exact h.two a ha
    · obtain rfl : a = g := by simpa using ha
      omega
  · rw [List.getLast?_append] at ha
    obtain rfl : g = a := Option.some.inj ha
    refine ⟨?_, ?_⟩
    · show (2 + 64 * sg + us - 2) / 64 = _
      rw [hsg]
      omega
    · show 2 + 64 * sg + us + c - (2 + 64 * ((2 + 64 * sg + us - 2) / 64)) = _
      rw [hen]
      omega
  · by_cases h1 : i < gs.length
    · rw [List.getElem?_append_left h1] at ha
      rw [List.getElem?_append_left (by omega)] at hx
      exact h.cost i a x ha hx
    · have h2 := (List.getElem?_eq_some_iff.1 ha).1
      rw [List.length_append] at h2
      have h2 : i < gs.length + 1 := h2
      rw [List.getElem?_append_right (by omega), show i - gs.length = 0 from by omega] at ha
      rw [List.getElem?_append_right (by omega), show i - L.length = 0 from by omega] at hx
      obtain rfl : g = a := Option.some.inj ha
      obtain rfl : l = x := Option.some.inj hx
      rw [hg, hl]
theorem Fit9.cut {v : WalV} {gs : List Gp} {L : List Wl.Rec} (h : Fit9 v gs L) (k : Nat) : Fit9 (v.cut k) (gs.drop k) (L.drop k) := by
  refine ⟨fun i a b ha hb => ?_, fun a ha => h.two a (List.mem_of_mem_drop ha), fun a ha => ?_, fun i a x ha hx => ?_⟩
  · rw [List.getElem?_drop] at ha hb
    exact h.nb (k + i) a b ha hb
  · rw [List.getLast?_drop] at ha
    split at ha
    · cases ha
    · exact h.last a ha
  · rw [List.getElem?_drop] at ha hx
    exact h.cost (k + i) a x ha hx
theorem Fit9.open_ {v v' : WalV} {gs : List Gp} {L : List Wl.Rec} (h : Fit9 v gs L) (h1 : v'.seg = Wl.lastS gs) (h2 : v'.used = Wl.lastU gs) : Fit9 v' gs L :=
  ⟨h.nb, h.two, fun g hg => by
    rw [h1, h2]
    unfold Wl.lastS Wl.lastU
    rw [hg]
    exact ⟨rfl, rfl⟩, h.cost⟩
theorem sum9_costs {v : WalV} : ∀ {gs : List Gp} {L : List Wl.Rec}, gs.length = L.length → (∀ (i : Nat) (g : Gp) (l : Wl.Rec), gs[i]? = some g → L[i]? = some l → g.s.cost = Wl.cost l) → gs.map (·.s.cost) = L.map Wl.cost
  | [], [], _, _ => rfl
  | g :: gs, l :: L, hn, h => by
    rw [List.map_cons, List.map_cons, h 0 g l rfl rfl, sum9_costs (v := v) (by simpa using hn) fun i g l hg hl => h (i + 1) g l hg hl]
  | [], l :: L, hn, _ => by simp at hn
  | g :: gs, [], hn, _ => by simp at hn
def Rp (p x S : Nat) (n : Int) (f B : Nat) (L : List Wl.Rec) : Rs := fun w G => ∃ (F : Nat → Prop) (s : AP) (K : Nat) (d : AD) (v : WalV) (vP vH : Value) (gs : List Gp), G = (fun k => F k ∨ WalG x vP vH k) ∧ Lg w x p 0 F s K d S v vP vH L gs ∧ Dry s.ds ∧ v.first = f ∧ f + L.length ≤ B ∧ 1 ≤ v.age ∧ v.age ≤ B + 2 ∧ K ≤ 100000 * (B + 1) ∧ d.n = n ∧ s.fuse < 0 ∧ Fit9 v gs L
def mostC (c : Nat) : List Wl.Rec → Nat := fun L => L.foldl (fun m l => max m (Wl.cost l)) c
def sumC (c : Nat) : List Wl.Rec → Nat := fun L => L.foldl (fun m l => m + Wl.cost l) c
theorem mostC_ge : ∀ (L : List Wl.Rec) (c : Nat), c ≤ mostC c L ∧ ∀ l ∈ L, Wl.cost l ≤ mostC c L
  | [], c => ⟨Nat.le_refl _, fun l hl => by cases hl⟩
  | x :: L, c => by
    have ih := mostC_ge L (max c (Wl.cost x))
    refine ⟨Nat.le_trans (Nat.le_max_left _ _) ih.1, fun l hl => ?_⟩
    rcases List.mem_cons.1 hl with rfl | hl
    · exact Nat.le_trans (Nat.le_max_right _ _) ih.1
    · exact ih.2 l hl
theorem sumC_sum : ∀ (L : List Wl.Rec) (c : Nat), sumC c L = c + (L.map Wl.cost).sum
  | [], c => rfl
  | x :: L, c => by
    have ih := sumC_sum L (c + Wl.cost x)
    rw [List.map_cons, List.sum_cons]
    show sumC (c + Wl.cost x) L = _
    rw [ih]
    omega
section
variable {w wr w' : World} {p x S f B a b : Nat} {n : Int} {L : List Wl.Rec} {bs : List Bo} {G Z : Nat → Prop} {R R' : Rs}
theorem Rp.rn (h : Rp p x S n f B L w G) : Rn p x S n f B L w G := by
  obtain ⟨F, s, K, d, v, vP, vH, gs, h0, h1, h2, h3, h4, h5, h6, h7, h8, _⟩ := h
  exact ⟨F, s, K, d, v, vP, vH, gs, h0, h1, h2, h3, h4, h5, h6, h7, h8⟩
theorem Rp.still (h : Rp p x S n f B L w G) (ht : Turn nowhere w w') : Rp p x S n f B L w' G := by
  obtain ⟨F, s, K, d, v, vP, vH, gs, h0, h1, h2⟩ := h
  exact ⟨F, s, K, d, v, vP, vH, gs, h0, h1.still ht, h2⟩
theorem Rp.lt (h : Rp p x S n f B L w G) : ∀ k, G k → k < w.heap.size := h.rn.lt
theorem Rp.up (h : Rp p x S n f B L w G) {C : Nat} (hC : B ≤ C) : Rp p x S n f C L w G := by
  obtain ⟨F, s, K, d, v, vP, vH, gs, h0, h1, h2, h3, h4, h5, h6, h7, h8⟩ := h
  exact ⟨F, s, K, d, v, vP, vH, gs, h0, h1, h2, h3, by omega, h5, by omega, by omega, h8⟩
theorem Cs.rn (h : Cs w wr B bs (Rp p x S n f B L)) : Cs w wr B bs (Rn p x S n f B L) := h.imp (fun G hR => hR.rn) (Nat.le_refl _)
def Cso (a b : Nat) (w wr : World) (B : Nat) (bs : List Bo) (R : Rs) : Prop := ∃ G Z : Nat → Prop, R wr G ∧ (∀ k, G k → w.heap.size ≤ k ∧ k < wr.heap.size) ∧ (∀ k, Z k → k < wr.heap.size ∧ ¬ G k) ∧ Bks wr B Z bs ∧ b ≤ wr.heap.size ∧ ∀ k, G k ∨ Z k → k < a ∨ b ≤ k
theorem Cso.cs (h : Cso a b w wr B bs R) : Cs w wr B bs R := by
  obtain ⟨G, Z, h1, h2, h3, h4, _⟩ := h
  exact ⟨G, Z, h1, h2, h3, h4⟩
theorem Cs.so (hst : ∀ w w' G, R w G → Turn nowhere w w' → R w' G) (h : Cs w wr B bs R) (ht : Turn nowhere wr w') : Cso wr.heap.size w'.heap.size w w' B bs R := by
  obtain ⟨G, Z, h1, h2, h3, h4⟩ := h
  exact ⟨G, Z, hst _ _ _ h1 ht, fun k hk => ⟨(h2 k hk).1, Nat.lt_of_lt_of_le (h2 k hk).2 ht.size⟩, fun k hk => ⟨Nat.lt_of_lt_of_le (h3 k hk).1 ht.size, (h3 k hk).2⟩, h4.turn ht (fun _ _ _ e => e) (Nat.le_refl _), Nat.le_refl _, fun k hk => .inl (hk.elim (fun e => (h2 k e).2) fun e => (h3 k e).1)⟩
theorem Cso.write (h : Cso a b w wr B bs (Rp p x S n f B L)) (hw : Turn nowhere w wr) (htab : Tab w) (ha : w.heap.size ≤ a) (ht : Turn (fun k => a ≤ k ∧ k < b) wr w') : Turn nowhere w w' ∧ Cso a b w w' B bs (Rp p x S n f B L) := by
  obtain ⟨G, Z, ⟨F, s, K, d, v, vP, vH, gs, rfl, h1, hrest⟩, h2, h3, h4, h5, h6⟩ := h
  have hlt := tab_lt htab
  have hoff : ∀ k, (F k ∨ WalG x vP vH k) ∨ Z k → ¬ (a ≤ k ∧ k < b) := fun k hk e => by
    rcases h6 k hk with e1 | e1 <;> omega
  refine ⟨hw.trans ht fun k hk e => by omega, _, Z, ⟨F, s, K, d, v, vP, vH, gs, rfl, ⟨h1.wb.turn ht fun k hk => hoff k (.inl (.inr hk)), h1.pt.turn ht fun k hk => hoff k (.inl (.inl hk)), tab_turn h1.tab ht fun e => by omega, h1.tf, h1.ds, h1.on, h1.dry, h1.ap, h1.lv, h1.rm⟩, hrest⟩, fun k hk => ⟨(h2 k hk).1, Nat.lt_of_lt_of_le (h2 k hk).2 ht.size⟩, fun k hk => ⟨Nat.lt_of_lt_of_le (h3 k hk).1 ht.size, (h3 k hk).2⟩, h4.turn ht (fun k hk _ => hoff k (.inr hk)) (Nat.le_refl _), Nat.le_trans h5 ht.size, h6⟩
theorem cso_lift {G' : Nat → Prop} (hw : Turn nowhere w wr) (hG : ∀ k, G k → w.heap.size ≤ k ∧ k < wr.heap.size) (hZ : ∀ k, Z k → k < wr.heap.size ∧ ¬ G k) (hb : Bks wr B Z bs) (hbs : b ≤ wr.heap.size) (hoff : ∀ k, G k ∨ Z k → k < a ∨ b ≤ k) (ht : Turn G wr w') (hG' : ∀ k, G' k → G k ∨ wr.heap.size ≤ k) (hlt : ∀ k, G' k → k < w'.heap.size) (hR : R' w' G') {C : Nat} (hC : B ≤ C) : Turn nowhere w w' ∧ Turn (fun k => k < a ∨ b ≤ k) wr w' ∧ Cso a b w w' C bs R' := by
  have hz := hw.size
  refine ⟨hw.trans ht fun k hk e => by have := (hG k e).1; omega, ht.mono fun k _ e => hoff k (.inl e), G', Z, hR, fun k hk => ⟨?_, hlt k hk⟩, fun k hk => ⟨Nat.lt_of_lt_of_le (hZ k hk).1 ht.size, fun e => ?_⟩, hb.turn ht (fun k hk _ => (hZ k hk).2) hC, Nat.le_trans hbs ht.size, fun k hk => ?_⟩
  · rcases hG' k hk with e | e
    · exact (hG k e).1
    · omega
  · rcases hG' k e with e | e
    · exact (hZ k hk).2 e
    · have := (hZ k hk).1
      omega
  · rcases hk with e | e
    · rcases hG' k e with e | e
      · exact hoff k (.inl e)
      · omega
    · exact hoff k (.inr e)
def Fits9 (S : Nat) (l : Wl.Rec) (L : List Wl.Rec) : Prop := (sumC (Wl.cost l) L : Int) ≤ (65 - (mostC (Wl.cost l) L : Int)) * ((S : Int) - 2)
theorem Cso.append (h : Cso a b w wr B bs (Rp p x S n f B L)) (hw : Turn nowhere w wr) (hB : B ≤ 100000) (hS : 3 ≤ S) {A : Option Addr} {m cap : Nat} {l : Wl.Rec} (hl : Ls wr A m l) :
    Calls Tryd.prog 8 #[.pointer (some ⟨x, 0, none⟩), .slice A m cap] wr fun r w' => Turn nowhere w w' ∧ Turn (fun k => k < a ∨ b ≤ k) wr w' ∧
      ((Wl.long l ∧ r = .returned (.tuple #[.int .i64 0, .int .i64 5]) ∧ Cso a b w w' (B + 1) bs (Rp p x S n f (B + 1) L)) ∨
       (¬ Wl.long l ∧ r = .returned (.tuple #[.int .i64 ((f + L.length : Nat) : Int), .int .i64 0]) ∧ Cso a b w w' (B + 1) bs (Rp p x S n f (B + 1) (L ++ [l]))) ∨
       (¬ Wl.long l ∧ ¬ Fits9 S l L ∧ r = .returned (.tuple #[.int .i64 0, .int .i64 3]) ∧ Cso a b w w' (B + 1) bs (Rp p x S n f (B + 1) L))) := by
  obtain ⟨G, Z, hRp, hG, hZ, hb, hbs, hoff⟩ := h
  have hup := hRp.up (Nat.le_succ B)
  obtain ⟨F, s, K, d, v, vP, vH, gs, rfl, h1, h2, h3, h4, h5, h6, h7, h8, h9, h10⟩ := hRp
  refine (h1.append (cap := cap) (by omega) (by omega) (by omega) hl).mono ?_
  rintro r w' (⟨hlo, rfl, ht⟩ | ⟨hnl, hno, rfl, ht⟩ | ⟨hnl, ht, F', s', hF, hpt, htb, htf, hj, (⟨_, rfl, hfu, P, d', vP', gs', hlg, hdn, hnw, sg, us, g, g1, g2, g3, g4, g5⟩ | ⟨hfz, _⟩)⟩)
  · obtain ⟨q1, q2, q3⟩ := cso_lift (bs := bs) hw hG hZ hb hbs hoff (ht.mono fun _ _ e => e.elim) (fun k hk => .inl hk) (hup.still ht).lt (hup.still ht) (Nat.le_succ B)
    exact ⟨q1, q2, .inl ⟨hlo, rfl, q3⟩⟩
  · obtain ⟨q1, q2, q3⟩ := cso_lift (bs := bs) hw hG hZ hb hbs hoff (ht.mono fun _ _ e => e.elim) (fun k hk => .inl hk) (hup.still ht).lt (hup.still ht) (Nat.le_succ B)
    refine ⟨q1, q2, .inr (.inr ⟨hnl, fun hf => ?_, rfl, q3⟩)⟩
    have hcs := sum9_costs (v := v) h1.lv.on.good.len h10.cost
    obtain ⟨m1, m2⟩ := mostC_ge L (Wl.cost l)
    refine h1.lv.fits h10 (c := Wl.cost l) (most := mostC (Wl.cost l) L) (by unfold Wl.cost; omega) (fun g hg => ?_) hS ?_ hno
    · obtain ⟨i, hi⟩ := List.getElem?_of_mem hg
      have hil := (List.getElem?_eq_some_iff.1 hi).1
      have hgl : L.length = gs.length := h1.lv.on.good.len.symm
      obtain ⟨x, hx⟩ : ∃ x, L[i]? = some x := ⟨L[i]'(by omega), List.getElem?_eq_getElem _⟩
      rw [h10.cost i g x hi hx]
      exact m2 x (List.mem_of_getElem? hx)
    · unfold Fits9 at hf
      rw [sumC_sum] at hf
      unfold sum9
      rw [hcs]
      generalize (L.map Wl.cost).sum = sm at *
      generalize mostC (Wl.cost l) L = ms at *
      have hc0 : 0 < Wl.cost l := by unfold Wl.cost; omega
      generalize Wl.cost l = cl at *
      by_cases h65 : ms ≤ 65
      · have e1 : (65 - (ms : Int)) * ((S : Int) - 2) = (((65 - ms) * (S - 2) : Nat) : Int) := by
          rw [Int.natCast_mul, Int.ofNat_sub h65, Int.ofNat_sub (show 2 ≤ S by omega)]
          rfl
        rw [e1] at hf
        omega
      · have e2 : (65 - (ms : Int)) * ((S : Int) - 2) ≤ 0 := Int.mul_nonpos_of_nonpos_of_nonneg (by omega) (by omega)
        omega
  · have hc := cost_le hnl
    obtain ⟨p1, p2, p3⟩ := h1.lv.pick hnl g1
    have hcp : 0 < Wl.cost l := by unfold Wl.cost; omega
    subst g2 g3
    have hR' : Rp p x S n f (B + 1) (L ++ [l]) w' (fun k => F' k ∨ WalG x vP' vH k) := ⟨F', s', _, d', _, vP', vH, _, rfl, hlg, h2.but hj hlg.ds hlg.dry, h3, (by rw [List.length_append]; show f + (L.length + 1) ≤ B + 1; omega), h5, (by show v.age ≤ _; omega), by omega, hdn.trans h8, by rw [hfu h9]; exact h9, h10.append h1.lv.on.good.len g1 hcp p3 g4 g5 rfl⟩
    obtain ⟨q1, q2, q3⟩ := cso_lift (bs := bs) hw hG hZ hb hbs hoff ht (fun k hk => by
      rcases hk with e | e
      · rcases hF k e with e | e
        · exact .inl (.inl e)
        · exact .inr e
      · rcases hnw k e with e | e
        · exact .inl (.inr e)
        · exact .inr e) hR'.lt hR' (Nat.le_succ B)
    exact ⟨q1, q2, .inr (.inl ⟨hnl, by rw [h3], q3⟩)⟩
  · exact absurd h9 hfz
theorem Cs.cutP (h : Cs w wr B bs (Rp p x S n f B L)) (hw : Turn nowhere w wr) (hB : B ≤ 100000) (no : Int) (hno : -9223372036854775808 ≤ no ∧ no ≤ 9223372036854775807) :
    Calls Tryd.prog 13 #[.pointer (some ⟨x, 0, none⟩), .int .i64 no] wr fun r w' => Turn nowhere w w' ∧
      ((¬ ((f : Int) ≤ no ∧ no ≤ ((f + L.length : Nat) : Int)) ∧ r = .returned (.int .i64 1) ∧ Cs w w' (B + 1) bs (Rp p x S n f (B + 1) L)) ∨
       (∃ k : Nat, no = ((f + k : Nat) : Int) ∧ k ≤ L.length ∧ r = .returned (.int .i64 0) ∧ Cs w w' (B + 1) bs (Rp p x S n (f + k) (B + 1) (L.drop k)))) := by
  obtain ⟨G, Z, hRp, hG, hZ, hb⟩ := h
  have hup := hRp.up (Nat.le_succ B)
  obtain ⟨F, s, K, d, v, vP, vH, gs, rfl, h1, h2, h3, h4, h5, h6, h7, h8, h9, h10⟩ := hRp
  refine (h1.cutw (by omega) (by omega) (by omega) no hno).mono ?_
  rintro r w' (⟨hbad, rfl, ht⟩ | ⟨ht, k, F', s', hk', hkl, hF, hpt, htb, htf, hj, (⟨_, rfl, hfu, d', vP', hlg, hdn, hnw⟩ | ⟨hfz, _⟩)⟩)
  · obtain ⟨q1, q2⟩ := cs_lift (bs := bs) hw hG hZ hb (ht.mono fun _ _ e => e.elim) (fun k hk => .inl hk) (hup.still ht).lt (hup.still ht) (Nat.le_succ B)
    exact ⟨q1, .inl ⟨by rw [← h3]; exact hbad, rfl, q2⟩⟩
  · have hR' : Rp p x S n (f + k) (B + 1) (L.drop k) w' (fun k => F' k ∨ WalG x vP' vH k) := ⟨F', s', _, d', _, vP', vH, gs.drop k, rfl, hlg, h2.but hj hlg.ds hlg.dry, (by show v.first + k = f + k; omega), (by rw [List.length_drop]; omega), (by show 1 ≤ v.age + 1; omega), (by show v.age + 1 ≤ _; omega), by omega, hdn.trans h8, by rw [hfu h9]; exact h9, h10.cut k⟩
    obtain ⟨q1, q2⟩ := cs_lift (bs := bs) hw hG hZ hb ht (fun j hj => by
      rcases hj with e | e
      · rcases hF j e with e | e
        · exact .inl (.inl e)
        · exact .inr e
      · exact .inl (.inr (hnw j e))) hR'.lt hR' (Nat.le_succ B)
    exact ⟨q1, .inr ⟨k, by rw [hk', h3], hkl, rfl, q2⟩⟩
  · exact absurd h9 hfz
theorem Cs.openP (h : Cs w wr B bs (Rp p x S n f B L)) (hw : Turn nowhere w wr) (hB : B ≤ 100000) (hS : segsN n = S) (hS0 : S ≠ 0) :
    Calls Tryd.prog 15 #[.pointer (some ⟨p, 0, none⟩), .int .i64 0] wr fun r w' => Turn nowhere w w' ∧ ∃ x', r = .returned (.tuple #[.pointer (some ⟨x', 0, none⟩), .int .i64 0]) ∧ Cs w w' (B + 1) bs (Rp p x' S n f (B + 1) L) := by
  obtain ⟨G, Z, ⟨F, s, K, d, v, vP, vH, gs, rfl, h1, h2, h3, h4, h5, h6, h7, h8, h9, h10⟩, hG, hZ, hb⟩ := h
  have hdk := h1.lv.on.disk
  rw [h3] at hdk
  refine (open_fit (i := 0) (f := f) (L := L) (S := S) (d := d) h1.pt h1.tab h1.tf h1.ds h1.on h1.dry (by rw [segsP_at h1.ds, h8, hS]) hS0 hdk (by rw [h1.lv.on.gr]; omega) (by omega) (by omega)).mono ?_
  rintro r w' ⟨ht, F', s', hF, hpt, htb, htf, hj, (⟨_, hfu, x', d', v', vP', vH', gs', rfl, hlg, hdn, hvf, hva, hnw, hgd, hsl, hul⟩ | ⟨hfz, _⟩)⟩
  · have hge : gs = gs' := good_uniq (by have := h1.lv.on.good; rwa [h3] at this) hgd
    subst hge
    have hgr := h1.lv.on.gr
    have hR' : Rp p x' S n f (B + 1) L w' (fun k => F' k ∨ WalG x' vP' vH' k) := ⟨F', s', _, d', v', vP', vH', gs, rfl, hlg, h2.but hj hlg.ds hlg.dry, hvf, by omega, by omega, by omega, by omega, hdn.trans h8, by rw [hfu h9]; exact h9, h10.open_ hsl hul⟩
    obtain ⟨q1, q2⟩ := cs_lift (bs := bs) hw hG hZ hb (ht.mono fun _ _ e => .inl e) (fun j hj => by
      rcases hj with e | e
      · rcases hF j e with e | e
        · exact .inl (.inl e)
        · exact .inr e
      · exact .inr (hnw j e)) hR'.lt hR' (Nat.le_succ B)
    exact ⟨q1, x', rfl, q2⟩
  · exact absurd h9 hfz
theorem Cs.firstP (h : Cs w wr B bs (Rp p x S n f B L)) : Calls Tryd.prog 16 #[.pointer (some ⟨x, 0, none⟩)] wr fun r w' => r = .returned (.int .i64 (f : Int)) ∧ w' = wr := by
  obtain ⟨G, Z, ⟨F, s, K, d, v, vP, vH, gs, rfl, h1, h2, h3, _⟩, _⟩ := h
  rw [← h3]
  exact First_walk h1.wb
theorem Cs.nextP (h : Cs w wr B bs (Rp p x S n f B L)) (hB : B ≤ 100000) : Calls Tryd.prog 17 #[.pointer (some ⟨x, 0, none⟩)] wr fun r w' => r = .returned (.int .i64 ((f + L.length : Nat) : Int)) ∧ Turn nowhere wr w' := by
  obtain ⟨G, Z, ⟨F, s, K, d, v, vP, vH, gs, rfl, h1, h2, h3, h4, _⟩, _⟩ := h
  rw [← h3, ← h1.lv.pn]
  exact Next_walk h1.wb (by omega)
theorem room_less {v : WalV} (h : v.seg < v.held.length) : roomN v < v.held.length := by
  unfold roomN
  have h1 := List.length_filter_lt_length_iff_exists (p := fun sg => freeB v sg) (l := List.range v.held.length)
  rw [List.length_range] at h1
  refine h1.2 ⟨v.seg, List.mem_range.2 h, ?_⟩
  unfold freeB
  simp
theorem Cs.roomP (h : Cs w wr B bs (Rp p x S n f B L)) : Calls Tryd.prog 18 #[.pointer (some ⟨x, 0, none⟩)] wr fun r w' => ∃ k : Nat, k < S ∧ r = .returned (.int .i64 (k : Int)) ∧ w' = wr := by
  obtain ⟨G, Z, ⟨F, s, K, d, v, vP, vH, gs, rfl, h1, h2, h3, h4, _⟩, _⟩ := h
  have hl := h1.lv.hl
  have hs := h1.lv.on.sgl
  exact (Room_walk h1.wb).mono fun r w' ⟨g1, g2⟩ => ⟨roomN v, by have := room_less (v := v) (by omega); omega, g1, g2⟩
end
theorem ground_cp {w : World} (n : Nat) (hn : 258 ≤ n) (hn2 : n ≤ 65536) (htab : Tab w) : Calls Tryd.prog 6 #[.int .i64 (n : Int)] w fun r w' => Turn nowhere w w' ∧ ∃ p x, r = .returned (.tuple #[.pointer (some ⟨p, 0, none⟩), .pointer (some ⟨x, 0, none⟩)]) ∧ Cs w w' 0 [] (Rp p x ((n - 2) / 64) n 0 0 []) := by
  refine (ground_walk n hn hn2 htab).mono ?_
  rintro r w' ⟨ht, p, x, F, s, d, v, vP, vH, rfl, hlg, hfu, hvf, hva, hdn, hF, hG, hdr⟩
  exact ⟨ht, p, x, rfl, fun k => F k ∨ WalG x vP vH k, fun _ => False, ⟨F, s, _, d, v, vP, vH, [], rfl, hlg, hdr, hvf, Nat.le_refl _, hva.1, hva.2, by omega, hdn, hfu, Fit9.nil v⟩, fun k hk => ⟨hk.elim (hF k) (hG k), hk.elim (fun e => hlg.pt.lt e) (fun e => hlg.glt e)⟩, fun k hk => hk.elim, fun e he => by cases he⟩
end Go.Proofs.YtelipeoilcepbaaDoor
namespace Go.Proofs.YtelipeoilcepbaaDoor
open Go.RowKit
open Wl (B8)
set_option linter.unusedVariables false
set_option linter.unusedSimpArgs false
set_option maxRecDepth 20000
set_option maxRecDepth 20000 in
set_option maxHeartbeats 4000000 in
theorem kind_walk {w : World} (c : Int) (hc : -9223372036854775808 ≤ c ∧ c ≤ 9223372036854775807) : Calls Tryd.prog 7 #[.int .i64 c] w fun r w' => r = .returned (.int .i64 (amongI c 10)) ∧ w' = w := by
  have HC := Lib.hid hc
  clear hc
  go_enter Tryd.func7, Tryd.ntmps7
  go_upto_region 0 with fail
  refine wp_region_lit ?_
  refine nR (.int .i64 0) (gx_assign rfl rfl) ?_;simp only [zz]
  by_cases h0 : c < 0
  · go_upto_region 1 with fail
    refine wp_region_lit ?_
    refine nR (.int .i64 c) (exec_move rfl rfl) ?_;simp only [zz];refine nR (.bool true) (ix_lss rfl rfl rfl (decide_eq_true h0)) ?_;simp only [zz]
    go_upto_region 2 with fail
    refine wp_region_lit ?_
    refine nR (.int .i64 c) (exec_move rfl rfl) ?_;simp only [zz];refine nR (.int .i64 (c + 1)) (ix_add rfl rfl rfl rfl (by have := HC.out; omega)) ?_;simp only [zz];refine nR (.int .i64 (-(c + 1))) (wx_neg rfl rfl rfl (by have := HC.out; omega)) ?_;simp only [zz];refine nR (.int .i64 (-(c + 1))) (gx_assign rfl rfl) ?_;simp only [zz]
    go_upto_region 3 with fail
    refine wp_region_lit ?_
    refine nR (.int .i64 (-(c + 1))) (exec_move rfl rfl) ?_;simp only [zz];refine nR (.int .i64 ((-(c + 1)).tmod 10)) (wx_rem rfl rfl rfl (by decide) (by have := HC.out; omega)) ?_;simp only [zz];refine nR (.int .i64 ((-(c + 1)).tmod 10)) (gx_assign rfl rfl) ?_;simp only [zz]
    go_wp2_with fail
    go_ret
    exact ⟨by unfold amongI; rw [if_pos h0]; rfl, rfl⟩
  · go_upto_region 1 with fail
    refine wp_region_lit ?_
    refine nR (.int .i64 c) (exec_move rfl rfl) ?_;simp only [zz];refine nR (.bool false) (ix_lss rfl rfl rfl (decide_eq_false h0)) ?_;simp only [zz]
    go_upto_region 3 with fail
    refine wp_region_lit ?_
    refine nR (.int .i64 c) (exec_move rfl rfl) ?_;simp only [zz];refine nR (.int .i64 (c.tmod 10)) (wx_rem rfl rfl rfl (by decide) (by have := HC.out; omega)) ?_;simp only [zz];refine nR (.int .i64 (c.tmod 10)) (gx_assign rfl rfl) ?_;simp only [zz]
    go_wp2_with fail
    go_ret
    exact ⟨by unfold amongI; rw [if_neg (show ¬ c < 0 by omega)]; rfl, rfl⟩
theorem sg_from {a : Act} {o : Oper} {W : World} {x z : Operand} {A : Option Addr} {n c j : Nat} (hj : j ≤ n) (hm : n ≤ c) (ho : o.op = .slice 30 x (some z) none none) (hx : a.eval x = .slice A n c) (hz : a.eval z = .int .i64 (j : Int)) : (execOp a.eval o).run Tryd.prog W = .ok (.value (.slice (fromK 1 A c j) (n - j) (c - j))) W :=
  exec_slice ho hx (congrArg some hz) rfl rfl (sl_from elmG8 A n c j hj hm W)
theorem gsz_drop {w : World} {Z : Nat → Prop} {A : Option Addr} {n c k : Nat} {gs : List Wl.Rec} (h : GsZ w Z (.slice A n c) gs) (hk : k ≤ n) : GsZ w Z (.slice (fromK 1 A c k) (n - k) (c - k)) (gs.drop k) := by
  obtain ⟨A', n', c', vs, e, h1, h2, h3, h4, h5, h6⟩ := h
  injection e with e1 e2 e3
  subst e1 e2 e3
  refine ⟨_, _, _, vs.drop k, rfl, by rw [List.map_drop]; exact rws_from h1 hk h5, by rw [List.length_drop, List.length_drop, h2], fun i u L hu hL => h3 (k + i) u L (by rwa [List.getElem?_drop] at hu) (by rwa [List.getElem?_drop] at hL), fun e => ?_, by omega, fun b off s e hp => ?_⟩
  · unfold fromK at e
    split at e
    · omega
    · cases A with
      | none => have := h4 rfl; omega
      | some a => cases e
  · unfold fromK at e
    rw [if_neg (by omega)] at e
    cases A with
    | none => cases e
    | some a =>
      obtain ⟨b0, o0, s0⟩ := a
      have e := Option.some.inj e
      have e1 : b0 = b := by
        have e2 := congrArg Addr.block e
        simp only [Addr.add] at e2
        split at e2 <;> exact e2
      rw [← e1]
      exact h6 b0 o0 s0 rfl (by omega)
def CutBP (w : World) (f k : Nat) (gs : List Wl.Rec) (Z : Nat → Prop) (r : Ending) (w' : World) : Prop := ∃ b', r = .returned (.pointer (some ⟨b', 0, none⟩)) ∧ Bk w' b' (f + k) (gs.drop k) (fun j => Z j ∨ w.heap.size ≤ j) ∧ Turn nowhere w w'
set_option maxRecDepth 20000 in
set_option maxHeartbeats 4000000 in
theorem cutB9_walk {w : World} {b f k : Nat} {gs : List Wl.Rec} {Z : Nat → Prop} (h : Bk w b f gs Z) (hk : k ≤ gs.length) (hf : f + gs.length ≤ 1000000000) :
    Calls Tryd.prog 14 #[.pointer (some ⟨b, 0, none⟩), .int .i64 ((f + k : Nat) : Int)] w (CutBP w f k gs Z) := by
  obtain ⟨u, hb, hg, hz⟩ := h
  obtain ⟨A, c, rfl, _, hc⟩ := hg.len
  obtain ⟨n, hn⟩ : ∃ n, n = gs.length := ⟨_, rfl⟩
  rw [← hn] at hb hf hg hk hc
  have HT := Lib.hid ((Turn.refl nowhere w).drew)
  have HB0 := Lib.hid (show Blk w.drew b 32 #[.int .i64 (f : Int), .slice A n c] from hb)
  have HGZ := Lib.hid ((gsz_drop hg hk).turn HT.out fun _ _ _ e => e)
  have HK := Lib.hid hk
  have HC := Lib.hid hc
  have HF := Lib.hid hf
  clear hb hg hn hz hk hc hf
  go_enter Tryd.func14, Tryd.ntmps14
  go_upto_region 0 with fail
  refine wp_region_lit ?_
  refine nR (.pointer none) (gx_assign rfl rfl) ?_;simp only [zz]
  go_upto_region 1 with fail
  refine wp_region_alw (fun W => Blk W b 32 #[.int .i64 (f : Int), .slice A n c]) (by kernel_rfl) ?_
  have hS0 := HB0.out
  generalize w.drew = wd at *
  refine alw_take (i := 0) (v := .int .i64 ((f + k : Nat) : Int)) rfl (by kernel_rfl) (by kernel_rfl) (fun _ _ _ h => h) (.inl ⟨by rfl, fun W hW => exec_move rfl rfl⟩) hS0 ?_
  simp only [zz]
  refine alw_take (i := 1) (v := .pointer (some ⟨b, 0, none⟩)) rfl (by kernel_rfl) (by kernel_rfl) (fun _ _ _ h => h) (.inl ⟨by rfl, fun W hW => exec_move rfl rfl⟩) hS0 ?_
  simp only [zz]
  refine alw_take (i := 2) (v := .pointer (some ⟨b, 0, none⟩)) rfl (by kernel_rfl) (by kernel_rfl) (fun _ _ _ h => h) (.inl ⟨by rfl, fun W hW => exec_nil rfl rfl⟩) hS0 ?_
  simp only [zz]
  refine alw_take (i := 3) (v := .pointer (some ⟨b, 1, none⟩)) rfl (by kernel_rfl) (by kernel_rfl) (fun _ _ _ h => h) (.inl ⟨by rfl, fun W hW => exec_field (off := 0) (d := 1) rfl rfl (by kernel_rfl)⟩) hS0 ?_
  simp only [zz]
  refine alw_take (i := 4) (v := .slice A n c) rfl (by kernel_rfl) (by kernel_rfl) (fun _ _ _ h => h) (.inl ⟨by rfl, fun W hW => exec_load1 rfl rfl (by kernel_rfl) (hW.cell 1)⟩) hS0 ?_
  simp only [zz]
  refine alw_take (i := 5) (v := .int .i64 ((f + k : Nat) : Int)) rfl (by kernel_rfl) (by kernel_rfl) (fun _ _ _ h => h) (.inl ⟨by rfl, fun W hW => exec_move rfl rfl⟩) hS0 ?_
  simp only [zz]
  refine alw_take (i := 6) (v := .pointer (some ⟨b, 0, none⟩)) rfl (by kernel_rfl) (by kernel_rfl) (fun _ _ _ h => h) (.inl ⟨by rfl, fun W hW => exec_move rfl rfl⟩) hS0 ?_
  simp only [zz]
  refine alw_take (i := 7) (v := .pointer (some ⟨b, 0, none⟩)) rfl (by kernel_rfl) (by kernel_rfl) (fun _ _ _ h => h) (.inl ⟨by rfl, fun W hW => exec_nil rfl rfl⟩) hS0 ?_
  simp only [zz]
  refine alw_take (i := 8) (v := .pointer (some ⟨b, 0, none⟩)) rfl (by kernel_rfl) (by kernel_rfl) (fun _ _ _ h => h) (.inl ⟨by rfl, fun W hW => exec_field (off := 0) (d := 0) rfl rfl (by kernel_rfl)⟩) hS0 ?_
  simp only [zz]
  refine alw_take (i := 9) (v := .int .i64 (f : Int)) rfl (by kernel_rfl) (by kernel_rfl) (fun _ _ _ h => h) (.inl ⟨by rfl, fun W hW => exec_load1 rfl rfl (by kernel_rfl) (hW.cell 0)⟩) hS0 ?_
  simp only [zz]
  refine alw_take (i := 10) (v := .int .i64 (k : Int)) rfl (by kernel_rfl) (by kernel_rfl) (fun _ _ _ h => h) (.inl ⟨by rfl, fun W hW => ix_sub rfl rfl rfl (by omega) (by have := HK.out; have := HF.out; omega)⟩) hS0 ?_
  simp only [zz]
  refine alw_take (i := 11) (v := .slice (fromK 1 A c k) (n - k) (c - k)) rfl (by kernel_rfl) (by kernel_rfl) (fun _ _ _ h => h) (.inl ⟨by rfl, fun W hW => sg_from HK.out HC.out rfl rfl rfl⟩) hS0 ?_
  simp only [zz]
  obtain ⟨A9, hA9⟩ : ∃ z, z = fromK 1 A c k := ⟨_, rfl⟩
  obtain ⟨m9, hm9⟩ : ∃ z, z = n - k := ⟨_, rfl⟩
  obtain ⟨c9, hc9⟩ : ∃ z, z = c - k := ⟨_, rfl⟩
  rw [← hA9, ← hm9, ← hc9] at HGZ ⊢
  clear hA9 hm9 hc9
  refine alw_take (i := 12) (v := .agg #[.int .i64 ((f + k : Nat) : Int), .slice A9 m9 c9]) rfl (by kernel_rfl) (by kernel_rfl) (fun _ _ _ h => h) (.inl ⟨by rfl, fun W hW => gx_build2 rfl rfl rfl (build_bk _ _ _ _ W)⟩) hS0 ?_
  simp only [zz]
  have hbn := Blk.new wd 32 #[.int .i64 ((f + k : Nat) : Int), .slice A9 m9 c9]
  have htb := (Turn.refl nowhere wd).alloc (.cells #[.int .i64 ((f + k : Nat) : Int), .slice A9 m9 c9] 32)
  have hbx := box_bk ((f + k : Nat) : Int) A9 m9 c9 wd
  obtain ⟨b9, hb9⟩ : ∃ z, z = wd.heap.size := ⟨_, rfl⟩
  rw [← hb9] at hbn hbx
  generalize wd.alloc (.cells #[.int .i64 ((f + k : Nat) : Int), .slice A9 m9 c9] 32) = w10 at *
  have HFIN := Lib.hid (show CutBP w f k gs Z (.returned (.pointer (some ⟨b9, 0, none⟩))) w10 from
    ⟨b9, rfl, ⟨_, hbn, (HGZ.out.turn htb fun _ _ _ e => e).mono fun j hj => .inl hj, .inr (by have := HT.out.size; omega)⟩, HT.out.trans htb fun _ _ e => e⟩)
  have HBX := Lib.hid hbx
  have HB10 := Lib.hid (HB0.out.turn htb fun e => e)
  clear hbn htb hbx hb9
  refine alw_step (i := 13) (by kernel_rfl) rfl rfl ?_
  intro K1 HK1
  refine wp_run (v := .pointer (some ⟨b9, 0, none⟩)) (gx_box rfl rfl HBX.out) ?_
  refine HK1.out _ _ ⟨HB10.out, ?_⟩
  clear HK1
  try simp only [zz]
  refine alw_take (i := 14) (v := .pointer (some ⟨b9, 0, none⟩)) rfl (by kernel_rfl) (by kernel_rfl) (fun _ _ _ h => h) (.inl ⟨by rfl, fun W hW => gx_assign rfl rfl⟩) HB10.out ?_
  simp only [zz]
  refine alw_done rfl ?_
  refine NoPanic.normal ?_
  try simp only [zz]
  go_wp2_with fail
  go_ret
  exact HFIN.out
section
variable {w wr w' : World} {B f b k : Nat} {L : List Wl.Rec} {bs : List Bo} {R : Rs}
theorem Cs.cutBook (hst : ∀ w w' G, R w G → Turn nowhere w w' → R w' G) (h : Cs w wr B bs R) (hw : Turn nowhere w wr) (hm : (b, f, L) ∈ bs) (hB : B ≤ 100000) (hk : k ≤ L.length) :
    Calls Tryd.prog 14 #[.pointer (some ⟨b, 0, none⟩), .int .i64 ((f + k : Nat) : Int)] wr fun r w' => Turn nowhere w w' ∧ ∃ b', r = .returned (.pointer (some ⟨b', 0, none⟩)) ∧ Cs w w' (B + 1) ((b', f + k, L.drop k) :: bs) R := by
  obtain ⟨G, Z, h1, h2, h3, h4⟩ := h
  obtain ⟨g1, g2⟩ := h4 _ hm
  have g2 : f + L.length ≤ B := g2
  refine (cutB9_walk g1 hk (by show f + L.length ≤ _; omega)).mono ?_
  rintro r w' ⟨b', rfl, hb, ht⟩
  refine ⟨hw.trans ht fun _ _ e => e, b', rfl, G, capZ (fun k => Z k ∨ wr.heap.size ≤ k) w'.heap.size, hst _ _ _ h1 ht, fun k hk => ⟨(h2 k hk).1, Nat.lt_of_lt_of_le (h2 k hk).2 ht.size⟩, fun k hk => ⟨hk.2, fun e => ?_⟩, fun e he => ?_⟩
  · rcases hk.1 with a | a
    · exact (h3 k a).2 e
    · have := (h2 k e).2
      omega
  · rcases List.mem_cons.1 he with rfl | he
    · refine ⟨hb.cap, ?_⟩
      show f + k + (L.drop k).length ≤ B + 1
      rw [List.length_drop]
      omega
    · exact ⟨(((h4 e he).1.still ht).mono fun k hk => .inl hk).cap, Nat.le_succ_of_le (h4 e he).2⟩
end
end Go.Proofs.YtelipeoilcepbaaDoor
namespace Go.Proofs.YtelipeoilcepbaaDoor
open Go.RowKit
open Wl (B8 Gp)
set_option linter.unusedVariables false
set_option linter.unusedSimpArgs false
set_option maxRecDepth 20000
section
variable {w wr w' : World} {p x S f B a b : Nat} {n : Int} {L : List Wl.Rec} {bs : List Bo} {R : Rs}
theorem Cs.bookat {q : Nat} (h : Cs w wr B bs R) (hm : (q, f, L) ∈ bs) : ∃ (A : Option Addr) (c : Nat) (Z : Nat → Prop), Blk wr q BKT #[.int .i64 (f : Int), .slice A L.length c] ∧ GsZ wr Z (.slice A L.length c) L := by
  obtain ⟨⟨Z, v, h1, h2, _⟩, _⟩ := h.bk hm
  obtain ⟨A, c, rfl, _, _⟩ := h2.len
  exact ⟨A, c, Z, h1, h2⟩
end
def OwW (w : World) (B E : Nat) (v : Value) (n : Nat) : Prop := ∃ vs : List Value, Orw w B 38 1 v (vs.map one1) ∧ vs.length = n ∧ ∀ (j : Nat) (u : Value), vs[j]? = some u → ∃ A m c, ∃ rs : List (List Value), u = .slice A m c ∧ Orw w B 5 1 (.slice A m c) rs ∧ rs.length = m ∧ m ≤ 1048576 ∧ ∀ b, (Value.slice A m c).ownBlock = some b → b < E
theorem OwW.turn {w w' : World} {B E n : Nat} {v : Value} {F : Nat → Prop} (h : OwW w B E v n) (ht : Turn F w w') (hF : ∀ k, B ≤ k → k < w.heap.size → ¬ F k) : OwW w' B E v n := by
  obtain ⟨vs, h1, h2, h3⟩ := h
  refine ⟨vs, h1.turn ht fun b hb => hF b (h1.lt hb).1 (h1.lt hb).2, h2, fun j u hu => ?_⟩
  obtain ⟨A, m, c, rs, e, h4, h5⟩ := h3 j u hu
  exact ⟨A, m, c, rs, e, h4.turn ht fun b hb => hF b (h4.lt hb).1 (h4.lt hb).2, h5⟩
theorem OwnR.oww {w : World} {B : Nat} {v : Value} {l : Wl.Rec} (h : OwnR w B v l l.length) : OwW w B w.heap.size v l.length := by
  obtain ⟨vs, h1, h2, h3⟩ := h
  refine ⟨vs, h1, h2, fun j u hu => ?_⟩
  have hj := (List.getElem?_eq_some_iff.1 hu).1
  obtain ⟨A, m, c, e, h4, h5⟩ := h3 j u _ hu (List.getElem?_eq_getElem (by omega))
  refine ⟨A, m, c, _, e, h4, ?_, h5, fun b hb => (h4.lt hb).2⟩
  obtain ⟨A', c', e', _⟩ := h4.form
  injection e' with _ e' _
  exact e'.symm
theorem OwW.at_ {w : World} {B E n k : Nat} {A : Option Addr} {c : Nat} (h : OwW w B E (.slice A n c) n) (hk : k < n) : ∃ g A2 m c2, A = some ⟨g, 0, none⟩ ∧ w.cell? ⟨g, k, none⟩ = some (.slice A2 m c2) ∧ m ≤ 1048576 ∧ ∀ i, i < m → ∃ g2 cur, A2 = some ⟨g2, 0, none⟩ ∧ B ≤ g2 ∧ g2 < E ∧ Blk w g2 5 cur ∧ i < cur.size ∧ ∀ w' u, u.oneCell' = true → Turn (only g2) w w' → Blk w' g2 5 (cur.setIfInBounds i u) → OwW w' B E (.slice A n c) n ∧ w'.cell? ⟨g, k, none⟩ = some (.slice A2 m c2) := by
  obtain ⟨vs, h1, h2, h3⟩ := h
  obtain ⟨g, c', e, _⟩ := h1.some_ (by rw [List.length_map]; omega)
  injection e with e1 _ e3
  subst e1 e3
  obtain ⟨v9, hv⟩ : ∃ v9, vs[k]? = some v9 := ⟨vs[k]'(by omega), List.getElem?_eq_getElem _⟩
  obtain ⟨A2, m, c2, rs, rfl, h4, h5, h6, hE⟩ := h3 k v9 hv
  have hcell := h1.el (i := k) (r := one1 (.slice A2 m c2)) (by rw [List.getElem?_map, hv]; rfl) 0 _ rfl
  have hcell' : w.cell? ⟨g, k, none⟩ = some (.slice A2 m c2) := by simpa using hcell
  refine ⟨g, A2, m, c2, rfl, hcell', h6, fun i hi => ?_⟩
  obtain ⟨g2, c3, e, _⟩ := h4.some_ (by omega)
  injection e with e1 _ e3
  subst e1 e3
  obtain ⟨cur, hb, hcs, ht, hn, hnc, hcm, hB⟩ := orw_block h4
  have hle : i < cur.size := by rw [hcs]; omega
  obtain ⟨curr, hbr⟩ := Orw.own_blk h1 (b := g) rfl
  have hgg : g ≠ g2 := hbr.ne_ hb (by decide)
  refine ⟨g2, cur, rfl, hB, hE g2 rfl, hb, hle, fun w' u hu htt hb' => ⟨⟨vs, h1.turn htt fun b9 hb9 e => ?_, h2, fun j u9 hu9 => ?_⟩, ?_⟩⟩
  · have e : b9 = g2 := e
    obtain ⟨cc, hc⟩ := Orw.own_blk h1 hb9
    subst e
    exact hc.ne_ hb (by decide) rfl
  · obtain ⟨A9, m9, c9, rs9, e9, g4, g5, g6⟩ := h3 j u9 hu9
    by_cases hsame : (Value.slice A9 m9 c9).ownBlock = some g2
    · obtain ⟨A', c', e', _, _, _, h9⟩ := g4.form
      injection e' with q1 q2 q3
      have hA9 : ∃ c8, A9 = some ⟨g2, 0, none⟩ ∧ c9 = c8 := by
        rcases g4.2.2 with ⟨e8, _⟩ | ⟨g8, cap8, cur8, e8, _⟩
        · injection e8 with e8
          rw [e8] at hsame
          cases hsame
        · injection e8 with e8 _ e10
          rw [e8] at hsame
          have : g8 = g2 := by simpa [Value.ownBlock] using hsame
          exact ⟨c9, by rw [e8, this], rfl⟩
      obtain ⟨_, rfl, _⟩ := hA9
      obtain ⟨cur2, hb2, hcs2, ht2, hn2, hnc2, hcm2, hB2⟩ := orw_block g4
      obtain rfl := hb.inj hb2
      by_cases him : i < m9
      · exact ⟨_, m9, c9, rs9.set i [u], e9, orw_set g4 hb hb' (by simp) him rfl (fun u8 hu8 => by
          obtain rfl : u8 = u := by simpa using hu8
          exact hu) (fun j8 => by
          rw [Array.getElem?_setIfInBounds]
          by_cases h8 : i = j8
          · subst h8
            rw [if_pos rfl, if_pos hle, if_pos (by omega), show i - i * 1 = 0 from by omega]
            rfl
          · rw [if_neg h8, if_neg (by omega)]) (by decide), by rw [List.length_set]; exact g5, g6⟩
      · refine ⟨_, m9, c9, rs9, e9, orw_of hb' hB2 g4.1 hn2 hnc2 hcm2 (by simpa using hcs2) ?_, g5, g6⟩
        rw [← ht2]
        apply List.ext_getElem?
        intro j8
        rw [List.getElem?_take, List.getElem?_take]
        split
        · rw [Array.getElem?_toList, Array.getElem?_toList, Array.getElem?_setIfInBounds, if_neg (by omega)]
        · rfl
    · exact ⟨A9, m9, c9, rs9, e9, g4.turn htt fun b9 hb9 e => hsame (by rw [hb9, show b9 = g2 from e]), g5, g6⟩
  · exact (htt.cell (p := ⟨g, k, none⟩) hbr.lt fun e => hgg (show g = g2 from e)).trans hcell'
end Go.Proofs.YtelipeoilcepbaaDoor
namespace Go.Proofs.YtelipeoilcepbaaDoor
open Go.RowKit
open Wl (B8)
set_option linter.unusedVariables false
set_option linter.unusedSimpArgs false
set_option maxRecDepth 20000
theorem wx_quo {a : Act} {o : Oper} {W : World} {x y : Operand} {n m : Nat} (ho : o.op = .binOp .quo 3 x y 3) (hx : a.eval x = .int .i64 (n : Int)) (hy : a.eval y = .int .i64 (m : Int)) (hm : 0 < m) (hn : n ≤ 9223372036854775807) : (execOp a.eval o).run Tryd.prog W = .ok (.value (.int .i64 ((n / m : Nat) : Int))) W := by
  have hm1 : (m : Int) ≠ 0 := by omega
  obtain ⟨q, hq⟩ : ∃ q : Nat, q = n / m := ⟨_, rfl⟩
  have hlt : q ≤ n := by rw [hq]; exact Nat.div_le_self _ _
  have e : (n : Int).tdiv (m : Int) = (q : Int) := by rw [hq]; rfl
  rw [← hq]
  have hw : IntKind.i64.wrap (q : Int) = (q : Int) := by rw [IntKind.wrap_i64]; omega
  unfold execOp
  simp only [ho, hx, hy]
  go_simp
  rw [if_neg (by omega), show IntKind.i64.wrap ((n : Int) / (m : Int)) = (n : Int) / (m : Int) from by rw [← Int.natCast_ediv, ← hq]; exact hw]
set_option maxRecDepth 20000 in
set_option maxHeartbeats 4000000 in
theorem cost_walk {w : World} {A : Option Addr} {n c : Nat} {l : Wl.Rec} (h1 : Ls w A n l) (hl : ¬ Wl.long l) :
    Calls Tryd.prog 33 #[.slice A n c] w fun r w' => r = .returned (.int .i64 (Wl.cost l : Int)) ∧ w' = w := by
  have HA := Lib.hid h1
  have HNA := Lib.hid h1.1
  obtain ⟨sz, hsz⟩ : ∃ z, z = Wl.size l := ⟨_, rfl⟩
  have hl' : n ≤ 16 ∧ sz ≤ 2048 := by
    unfold Wl.long at hl
    rw [hsz, ← h1.1]
    omega
  have y1 := hl'.1
  have y2 := hl'.2
  have HSZ := Lib.hid hsz
  have HC := Lib.hid (show Wl.cost l = (1 + 2 * n + sz + 39) / 40 from by unfold Wl.cost; rw [hsz, h1.1])
  clear h1 hl hl' hsz
  go_enter Tryd.func33, Tryd.ntmps33
  go_upto_region 0 with fail
  refine wp_region_lit ?_
  refine nR (.int .i64 0) (gx_assign rfl rfl) ?_;simp only [zz]
  go_upto_region 1 with fail
  refine wp_region_lit ?_
  refine nR (.slice A n c) (exec_move rfl rfl) ?_;simp only [zz];refine nR (.int .i64 (n : Int)) (gx_len rfl rfl Tryd.underlying33) ?_;simp only [zz];refine nR (.int .i64 ((2 * n : Nat) : Int)) (ix_mul rfl rfl rfl (by omega) (by omega)) ?_;simp only [zz];refine nR (.int .i64 ((1 + 2 * n : Nat) : Int)) (ix_add rfl rfl rfl (by omega) (by omega)) ?_;simp only [zz];refine nR (.slice A n c) (exec_move rfl rfl) ?_;simp only [zz]
  refine wpList_op rfl fun K9 HK9 => ?_
  go_wp2_with fail
  refine (bytes_walk (c := c) HA.out).mono ?_
  rintro e w ⟨rfl, rfl⟩
  refine HK9.out _ _ ?_
  clear HK9
  try simp only [zz]
  rw [← HSZ.out]
  refine nR (.int .i64 ((1 + 2 * n + sz : Nat) : Int)) (ix_add rfl rfl rfl (by omega) (by omega)) ?_;simp only [zz];refine nR (.int .i64 ((1 + 2 * n + sz + 39 : Nat) : Int)) (ix_add rfl rfl rfl (by omega) (by omega)) ?_;simp only [zz];refine nR (.int .i64 (((1 + 2 * n + sz + 39) / 40 : Nat) : Int)) (wx_quo (m := 40) rfl rfl rfl (by decide) (by omega)) ?_;simp only [zz];refine nR (.int .i64 (((1 + 2 * n + sz + 39) / 40 : Nat) : Int)) (gx_assign rfl rfl) ?_;simp only [zz]
  obtain ⟨q, hq⟩ : ∃ q, q = (1 + 2 * n + sz + 39) / 40 := ⟨_, rfl⟩
  rw [← hq] at HC ⊢
  clear hq
  go_wp2_with fail
  go_ret
  rw [HC.out]
  exact ⟨rfl, rfl⟩
end Go.Proofs.YtelipeoilcepbaaDoor
