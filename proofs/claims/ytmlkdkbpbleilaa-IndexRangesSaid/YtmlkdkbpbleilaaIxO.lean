/-
  Index: a tree in memory, by its depth; what is left of one behind changes of some of its nodes. No conditions.
-/
import Derived.Test.YtmlkdkbpbleilaaIxN
import Derived.Test.YtmlkdkbpbleilaaIxJ
namespace Go.Proofs.Ytmlkdkbpbleilaa
open Go.RowKit
open Ix
set_option linter.unusedVariables false
set_option linter.unusedSimpArgs false
/-- kids side by side, with the blocks that each one has -/
def KidsAt {α : Type} (R : Nat → α → List Nat → Prop) : List Nat → List α → List Nat → Prop
  | [], [], F => F = []
  | k :: ks, s :: ts, F => ∃ G F', F = G ++ F' ∧ R k s G ∧ KidsAt R ks ts F'
  | _, _, _ => False
theorem KidsAt.len {α : Type} {R : Nat → α → List Nat → Prop} : ∀ {ks : List Nat} {ts : List α} {F : List Nat}, KidsAt R ks ts F → ks.length = ts.length
  | [], [], _, _ => rfl
  | k :: ks, s :: ts, F, h => by
    obtain ⟨G, F', _, _, h⟩ := h
    rw [List.length_cons, List.length_cons, KidsAt.len h]
  | [], _ :: _, _, h => h.elim
  | _ :: _, [], _, h => h.elim
theorem KidsAt.app {α : Type} {R : Nat → α → List Nat → Prop} : ∀ {ks ks2 : List Nat} {ts ts2 : List α} {F F2 : List Nat}, KidsAt R ks ts F → KidsAt R ks2 ts2 F2 → KidsAt R (ks ++ ks2) (ts ++ ts2) (F ++ F2)
  | [], ks2, [], ts2, F, F2, h, g => by
    have h : F = [] := h
    subst h
    exact g
  | k :: ks, ks2, s :: ts, ts2, F, F2, h, g => by
    obtain ⟨G, F', rfl, h1, h2⟩ := h
    exact ⟨G, F' ++ F2, by rw [List.append_assoc], h1, KidsAt.app h2 g⟩
  | [], _, _ :: _, _, _, _, h, _ => h.elim
  | _ :: _, _, [], _, _, _, h, _ => h.elim
theorem KidsAt.cut {α : Type} {R : Nat → α → List Nat → Prop} : ∀ {ts ts2 : List α} {ks F : List Nat}, KidsAt R ks (ts ++ ts2) F → ∃ ks1 ks2 F1 F2, ks = ks1 ++ ks2 ∧ F = F1 ++ F2 ∧ KidsAt R ks1 ts F1 ∧ KidsAt R ks2 ts2 F2
  | [], ts2, ks, F, h => ⟨[], ks, [], F, rfl, rfl, rfl, h⟩
  | s :: ts, ts2, [], F, h => h.elim
  | s :: ts, ts2, k :: ks, F, h => by
    obtain ⟨G, F', rfl, h1, h2⟩ := h
    obtain ⟨ks1, ks2, F1, F2, rfl, rfl, h3, h4⟩ := KidsAt.cut h2
    exact ⟨k :: ks1, ks2, G ++ F1, F2, rfl, by rw [List.append_assoc], ⟨G, F1, rfl, h1, h3⟩, h4⟩
theorem KidsAt.cons {α : Type} {R : Nat → α → List Nat → Prop} {s : α} {ts : List α} {ks F : List Nat} (h : KidsAt R ks (s :: ts) F) : ∃ k ks' G F', ks = k :: ks' ∧ F = G ++ F' ∧ R k s G ∧ KidsAt R ks' ts F' := by
  cases ks with
  | nil => exact h.elim
  | cons k ks =>
    obtain ⟨G, F', h1, h2, h3⟩ := h
    exact ⟨k, ks, G, F', rfl, h1, h2, h3⟩
theorem KidsAt.mono {α : Type} {R R' : Nat → α → List Nat → Prop} : ∀ {ks : List Nat} {ts : List α} {F : List Nat}, KidsAt R ks ts F → (∀ k s G, s ∈ ts → (∀ q ∈ G, q ∈ F) → R k s G → R' k s G) → KidsAt R' ks ts F
  | [], [], _, h, _ => h
  | k :: ks, s :: ts, F, h, g => by
    obtain ⟨G, F', rfl, h1, h2⟩ := h
    exact ⟨G, F', rfl, g k s G (List.mem_cons_self ..) (fun q hq => List.mem_append_left _ hq) h1, KidsAt.mono h2 fun k s G hs hG => g k s G (List.mem_cons_of_mem _ hs) fun q hq => List.mem_append_right _ (hG q hq)⟩
  | [], _ :: _, _, h, _ => h.elim
  | _ :: _, [], _, h, _ => h.elim
theorem KidsAt.nil {α : Type} (R : Nat → α → List Nat → Prop) : KidsAt R [] [] [] := rfl
theorem KidsAt.one {α : Type} {R : Nat → α → List Nat → Prop} {k : Nat} {s : α} {G : List Nat} (h : R k s G) : KidsAt R [k] [s] G := ⟨G, [], (List.append_nil G).symm, h, rfl⟩
/-- a tree in memory: its top lies at p, its nodes at the blocks of F -/
def TrAt (H : Hp) : ∀ {d : Nat}, Nat → Tr d → List Nat → Prop
  | 0, p, t, F => Is H p t.1 [] ∧ F = [p]
  | d + 1, p, t, F => ∃ ks F', Is H p t.1 ks ∧ KidsAt (TrAt H (d := d)) ks t.2 F' ∧ F = p :: F'
theorem TrAt.same {H H' : Hp} {S : Nat → Prop} (hs : Same H H' S) : ∀ {d : Nat} {p : Nat} {t : Tr d} {F : List Nat}, TrAt H p t F → (∀ q ∈ F, ¬ S q) → TrAt H' p t F
  | 0, p, t, F, h, hF => by
    obtain ⟨h1, rfl⟩ := h
    exact ⟨h1.same hs (hF p (List.mem_cons_self ..)), rfl⟩
  | d + 1, p, t, F, h, hF => by
    obtain ⟨ks, F', h1, h2, rfl⟩ := h
    exact ⟨ks, F', h1.same hs (hF p (List.mem_cons_self ..)), h2.mono fun k s G _ hG hk => TrAt.same hs hk fun q hq => hF q (List.mem_cons_of_mem _ (hG q hq)), rfl⟩
theorem KidsAt.same {H H' : Hp} {S : Nat → Prop} (hs : Same H H' S) {d : Nat} {ks : List Nat} {ts : List (Tr d)} {F : List Nat} (h : KidsAt (TrAt H (d := d)) ks ts F) (hF : ∀ q ∈ F, ¬ S q) : KidsAt (TrAt H' (d := d)) ks ts F :=
  h.mono fun k s G _ hG hk => hk.same hs fun q hq => hF q (hG q hq)
theorem TrAt.top {H : Hp} : ∀ {d : Nat} {p : Nat} {t : Tr d} {F : List Nat}, TrAt H p t F → ∃ ks F', Is H p t.ps ks ∧ F = p :: F'
  | 0, p, t, F, h => ⟨[], [], h.1, h.2⟩
  | d + 1, p, t, F, h => by
    obtain ⟨ks, F', h1, _, h3⟩ := h
    exact ⟨ks, F', h1, h3⟩
theorem KidsAt.each {α : Type} {R : Nat → α → List Nat → Prop} : ∀ {ks : List Nat} {ts : List α} {F : List Nat}, KidsAt R ks ts F → ∀ q ∈ F, ∃ k s G, R k s G ∧ q ∈ G
  | [], [], F, h, q, hq => by
    have h : F = [] := h
    subst h
    cases hq
  | k :: ks, s :: ts, F, h, q, hq => by
    obtain ⟨G, F', rfl, h1, h2⟩ := h
    rcases List.mem_append.1 hq with hq | hq
    · exact ⟨k, s, G, h1, hq⟩
    · exact KidsAt.each h2 q hq
  | [], _ :: _, _, h, _, _ => h.elim
  | _ :: _, [], _, h, _, _ => h.elim
theorem TrAt.lt {w : World} {H : Hp} (hin : In w H) : ∀ {d : Nat} {p : Nat} {t : Tr d} {F : List Nat}, TrAt H p t F → ∀ q ∈ F, q < w.heap.size
  | 0, p, t, F, h, q, hq => by
    obtain ⟨h1, rfl⟩ := h
    obtain rfl : q = p := by simpa using hq
    exact h1.lt hin
  | d + 1, p, t, F, h, q, hq => by
    obtain ⟨ks, F', h1, h2, rfl⟩ := h
    rcases List.mem_cons.1 hq with rfl | hq
    · exact h1.lt hin
    · obtain ⟨k, s, G, hk, hG⟩ := h2.each q hq
      exact TrAt.lt hin hk q hG
/-- no block twice -/
def Nd1 (F : List Nat) : Prop := ∀ a, F.count a ≤ 1
theorem cnt_mem {F : List Nat} {q : Nat} (h : q ∈ F) : 1 ≤ F.count q := List.count_pos_iff.2 h
/-- what a call leaves of a tree -/
def After (w : World) (H : Hp) (p : Nat) (F : List Nat) {d : Nat} (t' : Tr d) (w' : World) : Prop :=
  ∃ H' F', To w H w' H' ∧ TrAt H' p t' F' ∧ Nd1 F' ∧ (∀ q ∈ F', q ∈ F ∨ w.heap.size ≤ q) ∧ (∀ q, q ∉ F → q < w.heap.size → H' q = H q)
theorem Is.inj {H : Hp} {p : Nat} {ps ps2 : List Pr} {ks ks2 : List Nat} (h : Is H p ps ks) (g : Is H p ps2 ks2) : ps = ps2 ∧ ks = ks2 := by
  obtain ⟨vp, vk, h⟩ := h
  obtain ⟨vp2, vk2, g⟩ := g
  rw [h] at g
  have g := Option.some.inj g
  injection g with g1 g2
  exact ⟨g1, g2⟩
/-- the kid at a place -/
theorem KidsAt.get {α : Type} {R : Nat → α → List Nat → Prop} : ∀ {ks : List Nat} {ts : List α} {F : List Nat}, KidsAt R ks ts F → ∀ {i : Nat} {s : α}, ts[i]? = some s → ∃ k G, ks[i]? = some k ∧ R k s G ∧ ∀ q ∈ G, q ∈ F
  | [], [], _, _, i, s, h => by simp at h
  | k :: ks, t :: ts, F, h, 0, s, hs => by
    obtain ⟨G, F', rfl, h1, h2⟩ := h
    obtain rfl : t = s := by simpa using hs
    exact ⟨k, G, rfl, h1, fun q hq => List.mem_append_left _ hq⟩
  | k :: ks, t :: ts, F, h, i + 1, s, hs => by
    obtain ⟨G, F', rfl, h1, h2⟩ := h
    obtain ⟨k', G', h3, h4, h5⟩ := KidsAt.get h2 (i := i) (by simpa using hs)
    exact ⟨k', G', by simpa using h3, h4, fun q hq => List.mem_append_right _ (h5 q hq)⟩
  | [], _ :: _, _, h, _, _, _ => h.elim
  | _ :: _, [], _, h, _, _, _ => h.elim
/-! ### two neighbours -/
section
variable {w w' : World} {H H' : Hp} {n x y : Nat} {A B : List Nat} {Fa Fb : List Nat}
theorem trip_not {S : List Nat} {q : Nat} (h : ∀ a ∈ S, q ≠ a) (hs : S = [n, x, y]) : ¬ (q = n ∨ q = x ∨ q = y) := by
  subst hs
  rintro (e | e | e)
  · exact h n (by simp) e
  · exact h x (by simp) e
  · exact h y (by simp) e
/-- the tree behind a pair that went from the node x to the node y behind it -/
theorem lendL_tree {d : Nat} {tx ty : Tr d} {Gx Gy : List Nat} {xk yk : List Nat} {p0 q0 : Pr} (hx : TrAt H x tx Gx) (hy : TrAt H y ty Gy) (ix : Is H x tx.ps xk) (iy : Is H y ty.ps yk) (hc : Nd1 (n :: (Gx ++ Gy))) (hq : tx.ps[tx.ps.length - 1]? = some q0)
    (jx : Is H' x (tx.ps.take (tx.ps.length - 1)) (xk.take (xk.length - 1))) (jy : Is H' y (p0 :: ty.ps) ((xk[xk.length - 1]?).toList ++ yk)) (hs : Same H H' (fun q => q = n ∨ q = x ∨ q = y)) :
    ∃ Gx' Gy', TrAt H' x (lendL tx p0 ty).1 Gx' ∧ TrAt H' y (lendL tx p0 ty).2.2 Gy' ∧ (∀ a, (Gx' ++ Gy').count a = (Gx ++ Gy).count a) ∧ (lendL tx p0 ty).2.1 = q0 := by
  have hne : ∀ {F : List Nat} (k : Nat), (∀ a, (n :: (Gx ++ Gy)).count a ≥ F.count a + ([n, x, y] : List Nat).count a) → ∀ q ∈ F, ¬ (q = n ∨ q = x ∨ q = y) := by
    intro F _ h q hq e
    have h1 := h q
    have h2 := hc q
    have h3 := cnt_mem hq
    have h4 : 1 ≤ ([n, x, y] : List Nat).count q := cnt_mem (by rcases e with rfl | rfl | rfl <;> simp)
    omega
  cases d with
  | zero =>
    obtain ⟨hx1, rfl⟩ := hx
    obtain ⟨hy1, rfl⟩ := hy
    obtain ⟨_, e1⟩ := ix.inj hx1
    obtain ⟨_, e2⟩ := iy.inj hy1
    subst e1 e2
    refine ⟨[x], [y], ⟨jx, rfl⟩, ⟨jy, rfl⟩, fun a => rfl, ?_⟩
    show lastP tx.1 = q0
    unfold lastP
    have hq : tx.1[tx.1.length - 1]? = some q0 := hq
    rw [hq]
    rfl
  | succ d =>
    obtain ⟨xk', Fx, hx1, hx2, rfl⟩ := hx
    obtain ⟨yk', Fy, hy1, hy2, rfl⟩ := hy
    obtain ⟨_, e1⟩ := ix.inj hx1
    obtain ⟨_, e2⟩ := iy.inj hy1
    subst e1 e2
    have hl := hx2.len
    have key : ∃ xk1 Fx1 F2, xk.take (xk.length - 1) = xk1 ∧ Fx = Fx1 ++ F2 ∧ KidsAt (TrAt H (d := d)) xk1 (tx.2.take (tx.2.length - 1)) Fx1 ∧ KidsAt (TrAt H (d := d)) (xk[xk.length - 1]?).toList (tx.2[tx.2.length - 1]?).toList F2 := by
      rcases Nat.eq_zero_or_pos tx.2.length with h0 | h0
      · have e3 : tx.2 = [] := List.eq_nil_of_length_eq_zero h0
        have e4 : xk = [] := List.eq_nil_of_length_eq_zero (hl.trans h0)
        rw [e3, e4] at hx2
        have hx2 : Fx = [] := hx2
        rw [e3, e4, hx2]
        exact ⟨[], [], [], rfl, rfl, rfl, rfl⟩
      · obtain ⟨z, hz, hz2⟩ := last_cut (l := tx.2) h0
        rw [hz2] at hx2
        obtain ⟨ks1, ks2, F1, F2, e5, e6, h3, h4⟩ := hx2.cut
        obtain ⟨kz, ks', G, F', e7, e8, h5, h6⟩ := h4.cons
        have e9 : ks' = [] := by
          have := h6.len
          exact List.eq_nil_of_length_eq_zero this
        subst e9
        have h6 : F' = [] := h6
        rw [h6, List.append_nil] at e8
        subst e8
        have hlen : ks1.length = tx.2.length - 1 := by
          have := h3.len
          rw [List.length_take] at this
          omega
        refine ⟨ks1, F1, F2, ?_, e6, h3, ?_⟩
        · rw [e5, e7, List.length_append, show ks1.length + [kz].length - 1 = ks1.length from by simp, List.take_left']
          rfl
        · rw [hz, e5, e7, List.length_append, show ks1.length + [kz].length - 1 = ks1.length from by simp, List.getElem?_append_right (Nat.le_refl _), Nat.sub_self]
          exact KidsAt.one h5
    obtain ⟨xk1, Fx1, F2, e3, e4, h3, h4⟩ := key
    subst e4
    refine ⟨x :: Fx1, y :: (F2 ++ Fy), ⟨xk1, Fx1, by rw [← e3]; exact jx, h3.same hs (hne 0 fun a => ?_), rfl⟩, ⟨_, F2 ++ Fy, jy, (h4.same hs (hne 0 fun a => ?_)).app (hy2.same hs (hne 0 fun a => ?_)), rfl⟩, fun a => ?_, ?_⟩
    · simp only [List.count_append, List.count_cons, List.count_nil]; omega
    · simp only [List.count_append, List.count_cons, List.count_nil]; omega
    · simp only [List.count_append, List.count_cons, List.count_nil]; omega
    · simp only [List.count_append, List.count_cons, List.count_nil]; omega
    · show lastP tx.1 = q0
      unfold lastP
      have hq : tx.1[tx.1.length - 1]? = some q0 := hq
      rw [hq]
      rfl
end
end Go.Proofs.Ytmlkdkbpbleilaa
