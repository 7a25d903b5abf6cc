/-
  Texts in one file: WmTwA LtOf. Conditions: the tables and the errors read as the program's text lays them.
-/
import Derived.Test.YtbfeejkdlhdioaaDoorJT35
import Derived.Test.YtbfeejkdlhdioaaDoorJT7
namespace Go.Proofs.YtbfeejkdlhdioaaDoor
open Go.RowKit
open Wl (B8 Gp)
set_option linter.unusedVariables false
set_option linter.unusedSimpArgs false
set_option maxRecDepth 20000
def capZ (Z : Nat → Prop) (N : Nat) : Nat → Prop := fun k => Z k ∧ k < N
section
variable {w : World} {Z : Nat → Prop} {v : Value} {x : B8} {l : Wl.Rec} {gs : List Wl.Rec} {b f : Nat}
theorem rws_lt {A : Option Addr} {n : Nat} {rs : List (List Value)} (h : Rws w 1 A n rs) : InZ (fun k => k < w.heap.size) A n := fun b off s e hp => by
  obtain ⟨h1, h2, _, h4⟩ := h
  obtain ⟨b', off', e', hc⟩ := h4 hp
  rw [e] at e'
  injection e' with e'
  injection e' with e1
  have hr : rs[0]? = some (rs[0]'(by omega)) := List.getElem?_eq_getElem (by omega)
  have hl := h2 _ (List.getElem_mem (l := rs) (n := 0) (by omega))
  have := hc 0 _ hr 0 _ (List.getElem?_eq_getElem (by omega))
  rw [e1]
  exact World.block_lt_of_cell? _ _ this
theorem InZ.both {Z Y : Nat → Prop} {A : Option Addr} {n : Nat} (h : InZ Z A n) (g : InZ Y A n) : InZ (fun k => Z k ∧ Y k) A n := fun b off s e hp => ⟨h b off s e hp, g b off s e hp⟩
theorem TxZ.cap (h : TxZ w Z v x) : TxZ w (capZ Z w.heap.size) v x := by
  obtain ⟨a, m, c, rfl, h1, h2, h3, h4⟩ := h
  refine ⟨a, m, c, rfl, h1, h2, h3, h4.both fun b off s e hp => ?_⟩
  obtain ⟨b', off', e', hc⟩ := h1.2.2 hp
  rw [e] at e'
  injection e' with e'
  injection e' with e1
  rw [e1]
  exact World.block_lt_of_cell? _ _ (hc 0 hp)
theorem LsZ.cap (h : LsZ w Z v l) : LsZ w (capZ Z w.heap.size) v l := by
  obtain ⟨A, n, c, vs, rfl, h1, h2, h3, h4, h5, h6⟩ := h
  exact ⟨A, n, c, vs, rfl, h1, h2, fun i u x hu hx => (h3 i u x hu hx).cap, h4, h5, h6.both (rws_lt h1)⟩
theorem GsZ.cap (h : GsZ w Z v gs) : GsZ w (capZ Z w.heap.size) v gs := by
  obtain ⟨A, n, c, vs, rfl, h1, h2, h3, h4, h5, h6⟩ := h
  exact ⟨A, n, c, vs, rfl, h1, h2, fun i u x hu hx => (h3 i u x hu hx).cap, h4, h5, h6.both (rws_lt h1)⟩
theorem Bk.cap (h : Bk w b f gs Z) : Bk w b f gs (capZ Z w.heap.size) := by
  obtain ⟨v, h1, h2, h3⟩ := h
  exact ⟨v, h1, h2.cap, h3, h1.lt⟩
end
/-- x is an open log on disk 0 of p that holds L; b a book that holds G; all of their blocks are newer than w, and apart; B bounds what has been done; φ is known of the fuse -/
def St (w wr : World) (p x b S : Nat) (n : Int) (f B : Nat) (L G : List Wl.Rec) (φ : Int → Prop) : Prop :=
  ∃ (F : Nat → Prop) (s : AP) (K : Nat) (d : AD) (v : WalV) (vP vH : Value) (gs : List Gp) (Z : Nat → Prop), Lg wr x p 0 F s K d S v vP vH L gs ∧ Dry s.ds ∧ φ s.fuse ∧ v.first = f ∧ f + L.length ≤ B ∧ v.age ≤ B + 2 ∧ K ≤ 70000 + 100 * B ∧ d.n = n ∧ (∀ k, F k ∨ WalG x vP vH k → w.heap.size ≤ k) ∧ Bk wr b f G Z ∧ ∀ k, Z k → k < wr.heap.size ∧ ¬ (F k ∨ WalG x vP vH k)
/-- behind a boot there is a log that holds L on disk 0 of p; b a book that holds G -/
def Cx (w wr : World) (p b S : Nat) (n : Int) (f B : Nat) (L G : List Wl.Rec) : Prop :=
  ∃ (F : Nat → Prop) (s : AP) (K : Nat) (Z : Nat → Prop), PlantAt wr p F s K ∧ Tab wr ∧ ¬ F 0 ∧ K ≤ 70000 + 100 * B ∧ f + L.length ≤ B ∧ (∀ k, F k → w.heap.size ≤ k) ∧ Bk wr b f G Z ∧ (∀ k, Z k → k < wr.heap.size ∧ ¬ F k) ∧
    ∀ zs : List Int, Dry (s.boot zs).ds ∧ ∃ d, (s.boot zs).ds[0]? = some d ∧ d.n = n ∧ Wl.DiskOk Crc.sumN (dkD d) S f L ∧ Wl.grt (dkD d) ≤ B + 2
/-- the same, and the power is on, nothing waits -/
def Cl (w wr : World) (p b S : Nat) (n : Int) (f B : Nat) (L G : List Wl.Rec) (φ : Int → Prop) : Prop :=
  ∃ (F : Nat → Prop) (s : AP) (K : Nat) (Z : Nat → Prop) (d : AD), PlantAt wr p F s K ∧ Tab wr ∧ ¬ F 0 ∧ K ≤ 70000 + 100 * B ∧ f + L.length ≤ B ∧ (∀ k, F k → w.heap.size ≤ k) ∧ Bk wr b f G Z ∧ (∀ k, Z k → k < wr.heap.size ∧ ¬ F k) ∧
    s.on = true ∧ φ s.fuse ∧ Dry s.ds ∧ s.ds[0]? = some d ∧ d.n = n ∧ Wl.DiskOk Crc.sumN (dkD d) S f L ∧ Wl.grt (dkD d) ≤ B + 2
section
variable {w wr w' : World} {p x b S f B : Nat} {n : Int} {L G : List Wl.Rec} {φ : Int → Prop}
theorem St.still (h : St w wr p x b S n f B L G φ) (ht : Turn nowhere wr w') : St w w' p x b S n f B L G φ := by
  obtain ⟨F, s, K, d, v, vP, vH, gs, Z, h1, h2, h3, h4, h5, h6, h7, h8, h9, h10, h11⟩ := h
  exact ⟨F, s, K, d, v, vP, vH, gs, Z, h1.still ht, h2, h3, h4, h5, h6, h7, h8, h9, h10.still ht, fun k hk => ⟨Nat.lt_of_lt_of_le (h11 k hk).1 ht.size, (h11 k hk).2⟩⟩
theorem St.mono (h : St w wr p x b S n f B L G φ) {C : Nat} (hC : B ≤ C) : St w wr p x b S n f C L G φ := by
  obtain ⟨F, s, K, d, v, vP, vH, gs, Z, h1, h2, h3, h4, h5, h6, h7, h8, h9, h10, h11⟩ := h
  exact ⟨F, s, K, d, v, vP, vH, gs, Z, h1, h2, h3, h4, by omega, by omega, by omega, h8, h9, h10, h11⟩
theorem Cl.mono (h : Cl w wr p b S n f B L G φ) {C : Nat} (hC : B ≤ C) : Cl w wr p b S n f C L G φ := by
  obtain ⟨F, s, K, Z, d, h1, h2, h3, h4, h5, h6, h7, h8, h9, h10, h11, h12, h13, h14, h15⟩ := h
  exact ⟨F, s, K, Z, d, h1, h2, h3, by omega, by omega, h6, h7, h8, h9, h10, h11, h12, h13, h14, by omega⟩
/-- a log that is open is there -/
theorem St.closed (h : St w wr p x b S n f B L G φ) : Cl w wr p b S n f B L G φ := by
  obtain ⟨F, s, K, d, v, vP, vH, gs, Z, h1, h2, h3, h4, h5, h6, h7, h8, h9, h10, h11⟩ := h
  have hd := h1.lv.on.disk
  rw [h4] at hd
  exact ⟨F, s, K, Z, d, h1.pt, h1.tab, h1.tf, h7, h5, fun k hk => h9 k (.inl hk), h10, fun k hk => ⟨(h11 k hk).1, fun e => (h11 k hk).2 (.inl e)⟩, h1.on, h3, h2, h1.ds, h8, hd, by rw [h1.lv.on.gr]; exact h6⟩
/-- what goes together over a call that turns F alone -/
theorem zed {F F' Z : Nat → Prop} (hz : ∀ k, Z k → k < wr.heap.size ∧ ¬ F k) (hF : ∀ k, F' k → F k ∨ wr.heap.size ≤ k) (hs : wr.heap.size ≤ w'.heap.size) : ∀ k, Z k → k < w'.heap.size ∧ ¬ F' k := fun k hk => by
  have h1 := hz k hk
  refine ⟨by omega, fun e => ?_⟩
  rcases hF k e with e | e
  · exact h1.2 e
  · omega
theorem Cl.fuse {ψ : Int → Prop} (h : Cl w wr p b S n f B L G φ) (hw : Turn nowhere w wr) (m : Int) (hm : -9223372036854775808 ≤ m ∧ m ≤ 9223372036854775807) (hψ : ψ m) :
    Calls Tryd.prog 26 #[.pointer (some ⟨p, 0, none⟩), .int .i64 m] wr fun e w' => e = .returned (.tuple #[]) ∧ Turn nowhere w w' ∧ Cl w w' p b S n f B L G ψ := by
  obtain ⟨F, s, K, Z, d, h1, h2, h3, h4, h5, h6, h7, h8, h9, h10, h11, h12, h13, h14, h15⟩ := h
  refine (fuseP h1 m hm).mono ?_
  rintro e w' ⟨rfl, F', hp, ht, hF⟩
  have htl := tab_lt h2
  have hz := hw.size
  rw [h9, if_pos rfl, ← h9] at hp
  refine ⟨rfl, hw.trans ht fun k hk e => by have := h6 k e; omega, F', _, K, Z, d, hp, tab_turn h2 ht h3, fun e => ?_, h4, h5, fun k hk => ?_, h7.turn ht fun k hk _ e => (h8 k hk).2 e, zed h8 hF ht.size, h9, hψ, h11, h12, h13, h14, h15⟩
  · rcases hF _ e with e | e
    · exact h3 e
    · omega
  · rcases hF k hk with e | e
    · exact h6 k e
    · omega
/-- Open whose answer nobody looks at -/
theorem Cl.open_any (h : Cl w wr p b S n f B L G φ) (hw : Turn nowhere w wr) (hB : B ≤ 100000) (hS : segsN n = S) (hS0 : S ≠ 0) :
    Calls Tryd.prog 20 #[.pointer (some ⟨p, 0, none⟩), .int .i64 0] wr fun r w' => (∃ u, r = .returned u) ∧ Turn nowhere w w' ∧ Cx w w' p b S n f (B + 1) L G := by
  obtain ⟨F, s, K, Z, d, h1, h2, h3, h4, h5, h6, h7, h8, h9, h10, h11, h12, h13, h14, h15⟩ := h
  have hz := hw.size
  refine (open_ok (i := 0) (f := f) (L := L) (S := S) (d := d) h1 h2 h3 h12 h9 (h11 0 d h12) (by rw [segsP_at h12, h13]; exact hS) hS0 h14 (by omega) (by omega) (by omega)).mono ?_
  rintro r w' ⟨ht, F', s', hF, hpt, htb, htf, hj, hc⟩
  have hT := hw.trans ht fun k hk e => by have := h6 k e; omega
  have hF' : ∀ k, F' k → w.heap.size ≤ k := fun k hk => by
    rcases hF k hk with e | e
    · exact h6 k e
    · omega
  rcases hc with ⟨_, _, x', d', v', vP', vH', gs', rfl, hlg, hdn, hvf, hva, hnw⟩ | ⟨_, rfl, hoff, hbt⟩
  · have hdk := hlg.lv.on.disk
    rw [hvf] at hdk
    have hdry : Dry s'.ds := h11.but hj hlg.ds hlg.dry
    exact ⟨⟨_, rfl⟩, hT, F', s', _, Z, hpt, htb, htf, by omega, by omega, hF', h7.turn ht fun k hk _ e => (h8 k hk).2 e, zed h8 hF ht.size, fun zs => by
      rw [hdry.boot zs]
      exact ⟨hdry, d', hlg.ds, by rw [hdn, h13], hdk, by rw [hlg.lv.on.gr, hva]; omega⟩⟩
  · exact ⟨⟨_, rfl⟩, hT, F', s', _, Z, hpt, htb, htf, by omega, by omega, hF', h7.turn ht fun k hk _ e => (h8 k hk).2 e, zed h8 hF ht.size, fun zs => by
      obtain ⟨d', q1, q2, q3, q4, q5⟩ := hbt zs
      exact ⟨fun j d9 hd9 => run_dry _ _ _ _ rfl j d9 hd9, d', q1, by rw [q2, h13], q4, by omega⟩⟩
theorem Cx.boot (h : Cx w wr p b S n f B L G) (hw : Turn nowhere w wr) (hB : B ≤ 100000) {A : Option Addr} {m c : Nat} {zs : List Int} (hk : Ks w nowhere A m zs) :
    Calls Tryd.prog 27 #[.pointer (some ⟨p, 0, none⟩), .slice A m c] wr fun e w' => e = .returned (.tuple #[]) ∧ Turn nowhere w w' ∧ Cl w w' p b S n f B L G (fun z => z < 0) := by
  obtain ⟨F, s, K, Z, h1, h2, h3, h4, h5, h6, h7, h8, h9⟩ := h
  have hz := hw.size
  have htl := tab_lt h2
  refine (boot_ok h1 A m c zs (ks_old hk hw h6) (by omega)).mono ?_
  rintro e w' ⟨rfl, F', hp, ht, hF⟩
  obtain ⟨q1, d, q2, q3, q4, q5⟩ := h9 zs
  refine ⟨rfl, hw.trans ht fun k hk e => by have := h6 k e; omega, F', _, K, Z, d, hp, tab_turn h2 ht h3, fun e => ?_, h4, h5, fun k hk => ?_, h7.turn ht fun k hk _ e => (h8 k hk).2 e, zed h8 hF ht.size, rfl, (by show (-1 : Int) < 0; decide), q1, q2, q3, q4, q5⟩
  · rcases hF _ e with e | e
    · exact h3 e
    · omega
  · rcases hF k hk with e | e
    · exact h6 k e
    · omega
/-- Open, while no fuse is set -/
theorem Cl.open_ (h : Cl w wr p b S n f B L G (fun z => z < 0)) (hw : Turn nowhere w wr) (hB : B ≤ 100000) (hS : segsN n = S) (hS0 : S ≠ 0) :
    Calls Tryd.prog 20 #[.pointer (some ⟨p, 0, none⟩), .int .i64 0] wr fun r w' => Turn nowhere w w' ∧ ∃ x, r = .returned (.tuple #[.pointer (some ⟨x, 0, none⟩), .int .i64 0]) ∧ St w w' p x b S n f (B + 1) L G (fun z => z < 0) := by
  obtain ⟨F, s, K, Z, d, h1, h2, h3, h4, h5, h6, h7, h8, h9, h10, h11, h12, h13, h14, h15⟩ := h
  have hz := hw.size
  refine (open_ok (i := 0) (f := f) (L := L) (S := S) (d := d) h1 h2 h3 h12 h9 (h11 0 d h12) (by rw [segsP_at h12, h13]; exact hS) hS0 h14 (by omega) (by omega) (by omega)).mono ?_
  rintro r w' ⟨ht, F', s', hF, hpt, htb, htf, hj, ⟨_, hfu, x', d', v', vP', vH', gs', rfl, hlg, hdn, hvf, hva, hnw⟩ | ⟨hfz, _⟩⟩
  · refine ⟨hw.trans ht fun k hk e => by have := h6 k e; omega, x', rfl, F', s', _, d', v', vP', vH', gs', Z, hlg, h11.but hj hlg.ds hlg.dry, by rw [hfu h10]; exact h10, hvf, by omega, by omega, by omega, by rw [hdn, h13], fun k hk => ?_, h7.turn ht fun k hk _ e => (h8 k hk).2 e, fun k hk => ?_⟩
    · rcases hk with e | e
      · rcases hF k e with e | e
        · exact h6 k e
        · omega
      · have := hnw k e
        omega
    · have h20 := zed h8 hF ht.size k hk
      refine ⟨h20.1, fun e => ?_⟩
      rcases e with e | e
      · exact h20.2 e
      · have := hnw k e
        have := (h8 k hk).1
        omega
  · exact absurd h10 hfz
theorem St.like (h : St w wr p x b S n f B L G φ) (hB : B ≤ 100000) (hG : G.length ≤ 100000) :
    Calls Tryd.prog 24 #[.pointer (some ⟨b, 0, none⟩), .pointer (some ⟨x, 0, none⟩)] wr fun r w' => r = .returned (.bool (decide (L = G))) ∧ Turn nowhere wr w' := by
  obtain ⟨F, s, K, d, v, vP, vH, gs, Z, h1, h2, h3, h4, h5, h6, h7, h8, h9, h10, h11⟩ := h
  refine (like_walk h1 h10 (by omega) (by omega)).mono ?_
  rintro r w' ⟨rfl, ht⟩
  refine ⟨?_, ht⟩
  rw [h4]
  by_cases e : L = G
  · rw [decide_eq_true e, decide_eq_true ⟨rfl, e⟩]
  · rw [decide_eq_false e, decide_eq_false fun h => e h.2]
theorem St.append (h : St w wr p x b S n f B L G (fun z => z < 0)) (hw : Turn nowhere w wr) (hB : B ≤ 100000) {A : Option Addr} {m cap : Nat} {l : Wl.Rec} (hl : Ls wr A m l) :
    Calls Tryd.prog 13 #[.pointer (some ⟨x, 0, none⟩), .slice A m cap] wr fun r w' => Turn nowhere w w' ∧
      ((r = .returned (.tuple #[.int .i64 ((f + L.length : Nat) : Int), .int .i64 0]) ∧ ¬ Wl.long l ∧ St w w' p x b S n f (B + 1) (L ++ [l]) G (fun z => z < 0)) ∨
       ∃ e : Int, (e = 3 ∧ ¬ Wl.long l ∨ e = 5 ∧ Wl.long l) ∧ r = .returned (.tuple #[.int .i64 0, .int .i64 e]) ∧ St w w' p x b S n f (B + 1) L G (fun z => z < 0)) := by
  have h0 := h
  obtain ⟨F, s, K, d, v, vP, vH, gs, Z, h1, h2, h3, h4, h5, h6, h7, h8, h9, h10, h11⟩ := h
  have hz := hw.size
  refine (h1.append (cap := cap) (by omega) (by omega) (by omega) hl).mono ?_
  rintro r w' (⟨hlo, rfl, ht⟩ | ⟨hnl, _, rfl, ht⟩ | ⟨hnl, ht, F', s', hF, _, _, _, hj, (⟨_, rfl, hfu, P, d', vP', gs', hlg, hdn, hnw⟩ | ⟨hfz, _⟩)⟩)
  · exact ⟨hw.trans ht fun _ _ e => e, .inr ⟨5, .inr ⟨rfl, hlo⟩, rfl, (h0.still ht).mono (by omega)⟩⟩
  · exact ⟨hw.trans ht fun _ _ e => e, .inr ⟨3, .inl ⟨rfl, hnl⟩, rfl, (h0.still ht).mono (by omega)⟩⟩
  · have hc := cost_le hnl
    refine ⟨hw.trans ht fun k hk e => by have := h9 k e; omega, .inl ⟨by rw [h4], hnl, F', s', _, d', _, vP', vH, gs', Z, hlg, h2.but hj hlg.ds hlg.dry, by rw [hfu h3]; exact h3, h4, by rw [List.length_append]; show f + (L.length + 1) ≤ _; omega, by show v.age ≤ _; omega, by omega, hdn.trans h8, fun k hk => ?_, h10.turn ht fun k hk _ e => (h11 k hk).2 e, fun k hk => ?_⟩⟩
    · rcases hk with e | e
      · rcases hF k e with e | e
        · exact h9 k (.inl e)
        · omega
      · rcases hnw k e with e | e
        · exact h9 k (.inr e)
        · omega
    · have h20 := h11 k hk
      refine ⟨Nat.lt_of_lt_of_le h20.1 ht.size, fun e => ?_⟩
      rcases e with e | e
      · rcases hF k e with e | e
        · exact h20.2 (.inl e)
        · omega
      · rcases hnw k e with e | e
        · exact h20.2 (.inr e)
        · omega
  · exact absurd h3 hfz
theorem St.with_ (h : St w wr p x b S n f B L G φ) (hw : Turn nowhere w wr) {A : Option Addr} {m cap : Nat} {l : Wl.Rec} (hl : Ls wr A m l) (hG : G.length ≤ 1000) :
    Calls Tryd.prog 17 #[.pointer (some ⟨b, 0, none⟩), .slice A m cap] wr fun r w' => Turn nowhere w w' ∧ ∃ b', r = .returned (.pointer (some ⟨b', 0, none⟩)) ∧ St w w' p x b' S n f B L (G ++ [l]) φ := by
  obtain ⟨F, s, K, d, v, vP, vH, gs, Z, h1, h2, h3, h4, h5, h6, h7, h8, h9, h10, h11⟩ := h
  refine (with_walk (c0 := cap) h10 hl hG).mono ?_
  rintro r w' ⟨b', rfl, hb, ht⟩
  refine ⟨hw.trans ht fun _ _ e => e, b', rfl, F, s, K, d, v, vP, vH, gs, _, h1.still ht, h2, h3, h4, h5, h6, h7, h8, h9, hb.cap, fun k hk => ⟨hk.2, fun e => ?_⟩⟩
  rcases hk.1 with e2 | e2
  · exact (h11 k e2).2 e
  · rcases e with e | e
    · have := h1.pt.lt e
      omega
    · have := h1.glt e
      omega
end
/-- the empty book, beside what ground makes -/
theorem ground_st {w : World} (n : Nat) (hn : 258 ≤ n) (hn2 : n ≤ 65536) (htab : Tab w) : Calls Tryd.prog 11 #[.int .i64 (n : Int)] w fun r w' => Turn nowhere w w' ∧ ∃ p x, r = .returned (.tuple #[.pointer (some ⟨p, 0, none⟩), .pointer (some ⟨x, 0, none⟩)]) ∧ ∀ w2 b, Turn nowhere w' w2 → w'.heap.size ≤ b → Blk w2 b 32 #[.int .i64 0, .slice none 0 0] → St w w2 p x b ((n - 2) / 64) n 0 0 [] [] (fun z => z < 0) := by
  refine (ground_walk n hn hn2 htab).mono ?_
  rintro r w' ⟨ht, p, x, F, s, d, v, vP, vH, rfl, hlg, hfu, hvf, hva, hdn, hF, hG, hdr⟩
  refine ⟨ht, p, x, rfl, fun w2 b h2 hb hblk => ⟨F, s, _, d, v, vP, vH, [], fun k => k = b, hlg.still h2, hdr, hfu, hvf, by simp, by omega, by omega, hdn, fun k hk => hk.elim (hF k) (hG k), ⟨_, hblk, gsz_nil _ _, rfl⟩, fun k hk => ?_⟩⟩
  subst hk
  refine ⟨hblk.lt, fun e => ?_⟩
  rcases e with e | e
  · have := hlg.pt.lt e
    omega
  · have := hlg.glt e
    omega
end Go.Proofs.YtbfeejkdlhdioaaDoor
namespace Go.Proofs.YtbfeejkdlhdioaaDoor
open Go.RowKit Go.ChangeShapes Go.WideShapes Go.Deep
set_option linter.unusedVariables false
section
variable {H : Type} {enc : TypeId × Value → H} {P : Program} {w : World} {base : Nat} {spare : Nat → Bool} {held : Bool}
/-- a slice whose elements read as 'en x'; of what each holds something more is known -/
theorem open_rwsP {α : Type} {t e : TypeId} {fuel k by_ : Nat} {v : Value} {x : DataW H × List MemPlace} (ht : P.underlying t = some (.slice e)) (hC : P.cellsOf e = k) (hk : 0 < k) (hby : P.bytesOf e = by_) (hb1 : 1 ≤ by_) (en : α → List Value) (Q : α → Prop) (d0 : α) (hen : ∀ x, (en x).length = k)
    (Pd : DataW H → Prop) (dec : ∀ n cs y, DataW.trod enc P w base spare held n e cs = some y → (∀ q ∈ y.1.weights P e, q ≤ reachBytes) → Pd y.1 → ∃ x : α, cs = en x ∧ Q x) (h : DataW.trod enc P w base spare held fuel t [v] = some x) (hw : ∀ q ∈ x.1.weights P t, q ≤ reachBytes) (hPd : ∀ D E, x.1 = .slice D E → ∀ d ∈ D, Pd d) :
    ∃ (A : Option Addr) (n c : Nat) (xs : List α), v = .slice A n c ∧ Rws w k A n (xs.map en) ∧ n ≤ c ∧ (A = none → c = 0) ∧ n * by_ ≤ reachBytes ∧ (∀ x ∈ xs, Q x) ∧ (x.1 = .nil ∧ n = 0 ∨ ∃ D E, x.1 = .slice D E ∧ D.length = n) := by
  rcases open_slice ht h with ⟨h0, hx0⟩ | ⟨a, len, cap, m, n, D, Pl, hcs, hb, hl, hm, hmm, rfl, hi⟩
  · injection h0 with h0
    exact ⟨none, 0, 0, [], h0, rws_nil w k none, Nat.le_refl _, fun _ => rfl, by omega, fun x hx => (by cases hx), .inl ⟨by rw [hx0], rfl⟩⟩
  · injection hcs with hcs
    have hlm : len ≤ m := by rw [hmm]; split <;> omega
    have hb2 : len * by_ ≤ reachBytes := by
      have := hw ((((List.range len).map D).length + ((List.range (m - len)).map fun j => D (len + j)).length) * P.bytesOf e) (by
        unfold DataW.weights
        simp only [ht]
        exact List.mem_cons_self ..)
      rw [hby] at this
      simp only [List.length_map, List.length_range] at this
      have h3 : len * by_ ≤ (len + (m - len)) * by_ := Nat.mul_le_mul_right _ (by omega)
      omega
    have hwt : ∀ i, i < len → ∀ q ∈ (D i).weights P e, q ≤ reachBytes := by
      intro i hi' q hq
      refine hw q ?_
      unfold DataW.weights
      simp only [ht]
      exact List.mem_cons_of_mem _ (List.mem_append_left _ (weights_all (List.mem_map.2 ⟨i, List.mem_range.2 hi', rfl⟩) hq))
    have hpd : ∀ i, i < len → Pd (D i) := fun i hi' => hPd _ _ rfl (D i) (List.mem_map.2 ⟨i, List.mem_range.2 hi', rfl⟩)
    have hn : len ≤ 140737488355328 := by
      have h1 := reachBytes_lt
      have h2 : len * 1 ≤ len * by_ := Nat.mul_le_mul_left _ hb1
      omega
    rw [hC] at hi
    have one : ∀ i, ∃ x : α, i < len → w.cells? base (a.add (i * k)) k = some (en x) ∧ Q x := by
      intro i
      by_cases him : i < len
      · obtain ⟨cs, hc, ht'⟩ := hi i (by omega)
        obtain ⟨x, rfl, hq⟩ := dec _ _ _ ht' (hwt i him) (hpd i him)
        exact ⟨x, fun _ => ⟨hc, hq⟩⟩
      · exact ⟨d0, fun h => absurd h him⟩
    obtain ⟨F, hF⟩ := Classical.axiomOfChoice one
    refine ⟨some a, len, cap, (List.range len).map F, hcs, ⟨by simp, fun r hr => ?_, hn, fun hp => ?_⟩, hl, (fun h => by cases h), hb2, fun x hx => ?_, .inr ⟨_, _, rfl, by simp⟩⟩
    · obtain ⟨x, _, rfl⟩ := List.mem_map.1 hr
      exact hen x
    · have hall : ∀ i, i < len → ∀ j v, (en (F i))[j]? = some v → w.cell? (a.add (i * k + j)) = some v := by
        intro i him j v hv
        obtain ⟨_, hcl, hat⟩ := World.cells?_some (hF i him).1
        have hj : j < k := by
          have := (List.getElem?_eq_some_iff.1 hv).1
          rwa [hen] at this
        have := hat j hj
        rw [hv] at this
        rw [← this, Go.Deep.add_add]
      obtain ⟨b, off, spot⟩ := a
      have hv0 : (en (F 0))[0]? = some ((en (F 0))[0]'(by rw [hen]; exact hk)) := List.getElem?_eq_getElem _
      have hc0 := hall 0 (by omega) 0 _ hv0
      have hspot : spot = none := by simpa [Addr.add] using World.cell?_spot hc0
      subst hspot
      refine ⟨b, off, rfl, fun i r hr j v hv => ?_⟩
      have hil : i < len := by
        have := (List.getElem?_eq_some_iff.1 hr).1
        simpa using this
      have hre : r = en (F i) := by
        rw [List.getElem?_map, List.getElem?_map, List.getElem?_range hil] at hr
        exact (Option.some.inj hr).symm
      subst hre
      have := hall i (by omega) j v hv
      rw [add_nat] at this
      rw [Nat.add_assoc]
      exact this
    · obtain ⟨i, hi', rfl⟩ := List.mem_map.1 hx
      exact (hF i (List.mem_range.1 hi')).2
end
theorem bulk_mem2 {H : Type} {d : DataW H} : ∀ {l : List (DataW H)}, d ∈ l → Rows.uptoBulk d ≤ Rows.uptoBulkAll l
  | [], h => by cases h
  | e :: r, h => by
    simp only [Rows.uptoBulkAll]
    rcases List.mem_cons.1 h with rfl | h
    · omega
    · have := bulk_mem2 h
      omega
/-- a row of texts that lies in a row -/
structure LtV where
  A : Option Addr
  n : Nat
  c : Nat
  l : List (List UInt8)
def LtV.cells (v : LtV) : List Value := [.slice v.A v.n v.c]
/-- rows of texts -/
structure LtsAt (w : World) (A : Option Addr) (n : Nat) (vs : List LtV) : Prop where
  row : Rws w 1 A n (vs.map LtV.cells)
  ok : ∀ v ∈ vs, Ls w v.A v.n v.l
theorem LtsAt.still {w w' : World} {A : Option Addr} {n : Nat} {vs : List LtV} (h : LtsAt w A n vs) (ht : Turn nowhere w w') : LtsAt w' A n vs := ⟨h.row.still ht, fun v hv => (h.ok v hv).still ht⟩
theorem LtsAt.len {w : World} {A : Option Addr} {n : Nat} {vs : List LtV} (h : LtsAt w A n vs) : vs.length = n := by
  have := h.row.1
  rwa [List.length_map] at this
theorem LtsAt.at_ {w : World} {A : Option Addr} {n : Nat} {vs : List LtV} (h : LtsAt w A n vs) {i : Nat} {v : LtV} (hv : vs[i]? = some v) : ∃ b off, A = some ⟨b, off, none⟩ ∧ w.cell? ⟨b, off + i * 1, none⟩ = some (.slice v.A v.n v.c) := by
  obtain ⟨b, off, hA, hc⟩ := h.row.at_ (i := i) (r := v.cells) (by rw [List.getElem?_map, hv]; rfl)
  exact ⟨b, off, hA, hc 0 _ rfl⟩
section
variable {H : Type} {enc : TypeId × Value → H} {W : World} {base : Nat} {held : Bool}
set_option maxRecDepth 20000 in
/-- rows of texts that came in, of small bulk -/
theorem lts_of {fuel : Nat} {v : Value} {x : DataW H × List MemPlace} (h : DataW.trod enc Tryd.prog W base (fun _ => true) held fuel 30 [v] = some x) (hw : ∀ q ∈ x.1.weights Tryd.prog 30, q ≤ reachBytes) (hk : Rows.uptoBulk x.1 ≤ 1048576) :
    ∃ (A : Option Addr) (n c : Nat) (vs : List LtV), v = .slice A n c ∧ LtsAt W A n vs ∧ n ≤ c ∧ (A = none → c = 0) := by
  obtain ⟨A, n, c, vs, h1, h2, h3, h4, h5, h6, h7⟩ := open_rwsP (by_ := 24) Tryd.underlying30 (k := 1) (by kernel_rfl) (by decide) (by kernel_rfl) (by decide) LtV.cells (fun v => Ls W v.A v.n v.l) ⟨none, 0, 0, []⟩ (fun _ => rfl) (fun d => Rows.uptoBulk d ≤ 1048576) (fun n cs y hy hwy hpy => by
    rcases open_ls hy hpy with rfl | ⟨a, len, cap, ls, rfl, hl⟩
    · exact ⟨⟨none, 0, 0, []⟩, rfl, ls_nil _ _⟩
    · exact ⟨⟨some a, len, cap, ls⟩, rfl, hl⟩) h hw (fun D E e d hd => by
      rw [e] at hk
      simp only [Rows.uptoBulk] at hk
      have := bulk_mem2 hd
      omega)
  exact ⟨A, n, c, vs, h1, ⟨h2, h6⟩, h3, h4⟩
end
end Go.Proofs.YtbfeejkdlhdioaaDoor
