/-
  Texts in one file: WmO WmP WmQ WmR WmS. Conditions: the tables and the errors read as the program's text lays them.
-/
import Derived.Test.YtelipeoilcepbaaDoorWp0
import Derived.Test.YtelipeoilcepbaaDoorWp29
namespace Go.Proofs.YtelipeoilcepbaaDoor
open Go.RowKit
open Wl (B8 Gp live beg lastS lastU)
set_option linter.unusedVariables false
set_option linter.unusedSimpArgs false
set_option maxRecDepth 20000
theorem tab_lt {w : World} (h : Tab w) : 0 < w.heap.size := World.block_lt_of_cell? _ _ (h 0 (by decide))
structure Lg (w : World) (x p i : Nat) (F : Nat → Prop) (s : AP) (K : Nat) (d : AD) (S : Nat) (v : WalV) (vP vH : Value) (L : List Wl.Rec) (gs : List Gp) : Prop where
  wb : WalB w x p i v vP vH
  pt : PlantAt w p F s K
  tab : Tab w
  tf : ¬ F 0
  ds : s.ds[i]? = some d
  on : s.on = true
  dry : d.ws = []
  ap : ∀ b, WalG x vP vH b → ¬ F b ∧ b ≠ 0
  lv : Lgv (dkD d) S v L gs
  rm : ((2 + 64 * S : Nat) : Int) ≤ d.n
section
variable {w w' : World} {x p i : Nat} {F : Nat → Prop} {s : AP} {K : Nat} {d : AD} {S : Nat} {v : WalV} {vP vH : Value} {L : List Wl.Rec} {gs : List Gp}
theorem Lg.still (h : Lg w x p i F s K d S v vP vH L gs) (ht : Turn nowhere w w') : Lg w' x p i F s K d S v vP vH L gs :=
  ⟨h.wb.still ht, h.pt.turn ht fun _ _ e => e, tab_still h.tab ht, h.tf, h.ds, h.on, h.dry, h.ap, h.lv, h.rm⟩
theorem Lg.small (h : Lg w x p i F s K d S v vP vH L gs) : S ≤ 1023 ∧ 0 < S := by
  have := h.pt.dn h.ds
  have := h.rm
  have := h.lv.on.sgl
  omega
theorem Lg.held_le (h : Lg w x p i F s K d S v vP vH L gs) (k : Nat) : v.held.getD k 0 ≤ v.places.length := by
  rw [h.lv.he, List.getD_eq_getElem?_getD]
  by_cases hk : k < S
  · rw [heldOf_at _ hk]
    exact List.countP_le_length
  · rw [List.getElem?_eq_none (by rw [heldOf_len]; omega)]
    exact Nat.zero_le _
theorem grt_mix {D N D' : Wl.Disk} (h : Wl.Mix D N D') (w : Wl.Whole D) (w' : Wl.Whole D') (h0 : N 0 = D 0) (h1 : N 1 = D 1) : Wl.grt D' = Wl.grt D := by
  have e0 := Wl.mix_off h w w' h0
  have e1 := Wl.mix_off h w w' h1
  unfold Wl.grt Wl.ages Wl.ageAt Wl.tagAt Wl.halfAt
  rw [e0, e1]
def Torn (s' : AP) (i : Nat) (d : AD) (S f : Nat) (L L2 : List Wl.Rec) : Prop := ∀ zs : List Int, ∃ d', (s'.boot zs).ds[i]? = some d' ∧ d'.n = d.n ∧ d'.ws = [] ∧ (Wl.DiskOk Crc.sumN (dkD d') S f L ∨ Wl.DiskOk Crc.sumN (dkD d') S f L2) ∧ Wl.grt (dkD d') = Wl.grt (dkD d)
def AppQ (w : World) (x p i : Nat) (F : Nat → Prop) (s : AP) (K : Nat) (d : AD) (S : Nat) (v : WalV) (vP vH : Value) (L : List Wl.Rec) (gs : List Gp) (l : Wl.Rec) (r : Ending) (w' : World) : Prop :=
  (Wl.long l ∧ r = .returned (.tuple #[.int .i64 0, .int .i64 5]) ∧ Turn nowhere w w') ∨
  (¬ Wl.long l ∧ v.pick (Wl.cost l) = none ∧ r = .returned (.tuple #[.int .i64 0, .int .i64 3]) ∧ Turn nowhere w w') ∨
  (¬ Wl.long l ∧ Turn (fun b => F b ∨ WalG x vP vH b) w w' ∧ ∃ (F' : Nat → Prop) (s' : AP), (∀ b, F' b → F b ∨ w.heap.size ≤ b) ∧ PlantAt w' p F' s' (K + Wl.cost l + 1) ∧ Tab w' ∧ ¬ F' 0 ∧ (∀ j, j ≠ i → s'.ds[j]? = s.ds[j]?) ∧
    ((s.fuse ≠ 0 ∧ r = .returned (.tuple #[.int .i64 ((v.first + L.length : Nat) : Int), .int .i64 0]) ∧ (s.fuse < 0 → s'.fuse = s.fuse) ∧ ∃ (P : Nat) (d' : AD) (vP' : Value) (gs' : List Gp), Lg w' x p i F' s' (K + Wl.cost l + 1) d' S (v.add P (Wl.cost l)) vP' vH (L ++ [l]) gs' ∧ d'.n = d.n ∧ (∀ b, WalG x vP' vH b → WalG x vP vH b ∨ w.heap.size ≤ b) ∧ ∃ (sg us : Nat) (g : Gp), v.pick (Wl.cost l) = some (sg, us) ∧ P = 2 + 64 * sg + us ∧ gs' = gs ++ [g] ∧ g.P = P ∧ g.s.cost = Wl.cost l) ∨
     (¬ s.fuse < 0 ∧ r = .returned (.tuple #[.int .i64 0, .int .i64 2]) ∧ s'.on = false ∧ Torn s' i d S v.first L (L ++ [l]) ∧ (s.fuse = 0 → s'.ds = s.ds))))
set_option maxHeartbeats 1000000 in
theorem Lg.append (h : Lg w x p i F s K d S v vP vH L gs) (ha : v.age < 4294967296) (hn : v.first + L.length < 4294967296) (hK : K + 66 < 1099511627775) {A : Option Addr} {n cap : Nat} {l : Wl.Rec} (hl : Ls w A n l) :
    Calls Tryd.prog 8 #[.pointer (some ⟨x, 0, none⟩), .slice A n cap] w fun r w' => AppQ w x p i F s K d S v vP vH L gs l r w' := by
  have hS := h.small
  have hpn := h.lv.pn
  have hhl := h.lv.hl
  refine (Append_walk h.wb h.pt h.tab d h.ds (fun b hb => (h.ap b hb).1) A n cap l hl (by omega) (by omega) (by omega) (by rw [hhl]; exact h.rm) (by rw [hhl]; exact h.lv.on.sgl) h.lv.on.usl (fun k => by have := h.held_le k; omega) hK).mono ?_
  rintro r w' (⟨h1, h2, h3⟩ | ⟨h1, h2, h3, h4⟩ | ⟨h1, sg, us, e, s', F', hp, hla, hpt, ht, hF, hc⟩)
  · exact .inl ⟨h1, h2, h3⟩
  · exact .inr (.inl ⟨h1, h2, h3, h4⟩)
  · have htl := tab_lt h.tab
    have htab : Tab w' := tab_turn h.tab ht fun e => by
      rcases e with e | e
      · exact h.tf e
      · exact (h.ap _ e).2 rfl
    have htf : ¬ F' 0 := fun e => by
      rcases hF _ e with e | e
      · exact h.tf e
      · omega
    have hi := (List.getElem?_eq_some_iff.1 h.ds).1
    refine .inr (.inr ⟨h1, ht, F', s', hF, hpt, htab, htf, ?_, ?_⟩)
    · intro j hj
      rcases hla with ⟨_, _, _, _, d', h5, _⟩ | ⟨_, _, _, d', h5, _⟩
      · rw [h5, List.getElem?_set_ne (fun e => hj e.symm)]
      · rw [h5, List.getElem?_set_ne (fun e => hj e.symm)]
    · rcases hc with ⟨rfl, hr, vP', hw, hap, hown⟩ | ⟨he, hr, hw⟩
      · rcases hla with ⟨_, hon, hon', ⟨hf1, hf2⟩, d', h5, h6, h7, h8⟩ | ⟨h0, _⟩
        · rcases h.lv.append (D' := dkD d') (dkD_whole d) (dkD_whole d') ha hn h1 hp (by rw [h8]; exact fun q j _ => .inr rfl) with ⟨h9, _⟩ | ⟨_, gs', h9, hg9⟩
          · exact absurd (fun q => by rw [h8]) h9
          · have hds : s'.ds[i]? = some d' := by rw [h5]; exact List.getElem?_set_self hi
            have hnw : ∀ b, WalG x vP' vH b → WalG x vP vH b ∨ w.heap.size ≤ b := fun b hb => by
              rcases hb with e | e | e
              · exact .inl (.inl e)
              · rcases hown b e with e2 | e2
                · exact .inl (.inr (.inl e2))
                · exact .inr e2
              · exact .inl (.inr (.inr e))
            refine .inl ⟨hf2, by rw [hr, hpn], hf1, 2 + 64 * sg + us, d', vP', gs', ⟨hw, hpt, htab, htf, hds, hon', h7, fun b hb => ⟨hap b hb, ?_⟩, h9, by rw [h6]; exact h.rm⟩, h6, hnw, sg, us, ?_⟩
            · rcases hnw b hb with e | e
              · exact (h.ap b e).2
              · omega
            · obtain ⟨g, e1, e2, e3⟩ := hg9
              exact ⟨g, hp, rfl, e1, e2, e3⟩
        · cases h0
      · rcases hla with ⟨h0, _⟩ | ⟨rfl, hoff, hfu, d1, h5, hwr⟩
        · exact absurd h0 he
        · refine .inr ⟨fun hf => ?_, hr, hoff, fun zs => ?_, fun hz => by rw [h5, hwr.2 hz]; exact set_same h.ds⟩
          · have := hfu hf
            rw [h.on] at this
            cases this
          · obtain ⟨d', q1, q2, q3, q4⟩ := laid_crash (.inr ⟨rfl, hoff, hfu, d1, h5, hwr⟩) hi h.dry zs
            refine ⟨d', q1, q2, q3, ?_, grt_mix q4 (dkD_whole d) (dkD_whole d') (Wl.lay_off (by omega)) (Wl.lay_off (by omega))⟩
            rcases h.lv.append (D' := dkD d') (dkD_whole d) (dkD_whole d') ha hn h1 hp q4 with ⟨_, h9⟩ | ⟨_, gs', h9, _⟩
            · exact .inl h9
            · exact .inr h9.on.disk
end
end Go.Proofs.YtelipeoilcepbaaDoor
namespace Go.Proofs.YtelipeoilcepbaaDoor
open Go.RowKit
open Wl (B8 Gp live beg lastS lastU)
set_option linter.unusedVariables false
set_option linter.unusedSimpArgs false
set_option maxRecDepth 20000
section
variable {w w' : World} {x p i : Nat} {F : Nat → Prop} {s : AP} {K : Nat} {d : AD} {S : Nat} {v : WalV} {vP vH : Value} {L : List Wl.Rec} {gs : List Gp}
theorem Lg.glt (h : Lg w x p i F s K d S v vP vH L gs) {b : Nat} (hb : WalG x vP vH b) : b < w.heap.size := by
  rcases hb with e | e | e
  · rw [e]; exact h.wb.blk.lt
  · exact (h.wb.pl.lt e).1
  · exact (h.wb.he.lt e).1
theorem Lg.places_ok (h : Lg w x p i F s K d S v vP vH L gs) (k P : Nat) (hk : v.places[k]? = some P) : 2 ≤ P ∧ P ≤ 1048576 ∧ (P - 2) / 64 < v.held.length := by
  have hS := h.small
  rw [h.lv.pl, List.getElem?_map] at hk
  obtain ⟨g, hg, rfl⟩ := Option.map_eq_some_iff.1 hk
  obtain ⟨sg, h1, h2, h3, h4⟩ := h.lv.on.good.seg g (List.mem_of_getElem? hg)
  unfold Wl.beg at h2 h3
  rw [h.lv.hl]
  omega
def CutQ (w : World) (x p i : Nat) (F : Nat → Prop) (s : AP) (K : Nat) (d : AD) (S : Nat) (v : WalV) (vP vH : Value) (L : List Wl.Rec) (gs : List Gp) (no : Int) (r : Ending) (w' : World) : Prop :=
  (¬ ((v.first : Int) ≤ no ∧ no ≤ ((v.first + L.length : Nat) : Int)) ∧ r = .returned (.int .i64 1) ∧ Turn nowhere w w') ∨
  (Turn (fun b => F b ∨ WalG x vP vH b) w w' ∧ ∃ (k : Nat) (F' : Nat → Prop) (s' : AP), no = ((v.first + k : Nat) : Int) ∧ k ≤ L.length ∧ (∀ b, F' b → F b ∨ w.heap.size ≤ b) ∧ PlantAt w' p F' s' (K + 2) ∧ Tab w' ∧ ¬ F' 0 ∧ (∀ j, j ≠ i → s'.ds[j]? = s.ds[j]?) ∧
    ((s.fuse ≠ 0 ∧ r = .returned (.int .i64 0) ∧ (s.fuse < 0 → s'.fuse = s.fuse) ∧ ∃ (d' : AD) (vP' : Value), Lg w' x p i F' s' (K + 2) d' S (v.cut k) vP' vH (L.drop k) (gs.drop k) ∧ d'.n = d.n ∧ ∀ b, WalG x vP' vH b → WalG x vP vH b) ∨
     (¬ s.fuse < 0 ∧ r = .returned (.int .i64 2) ∧ s'.on = false ∧ ∀ zs : List Int, ∃ d', (s'.boot zs).ds[i]? = some d' ∧ d'.n = d.n ∧ d'.ws = [] ∧ (Wl.DiskOk Crc.sumN (dkD d') S v.first L ∨ Wl.DiskOk Crc.sumN (dkD d') S (v.first + k) (L.drop k)) ∧ Wl.grt (dkD d') ≤ v.age + 1)))
set_option maxHeartbeats 1000000 in
theorem Lg.cutw (h : Lg w x p i F s K d S v vP vH L gs) (ha : v.age + 1 < 4294967296) (hn : v.first + L.length < 4294967296) (hK : K + 2 < 1099511627775) (no : Int) (hno : -9223372036854775808 ≤ no ∧ no ≤ 9223372036854775807) :
    Calls Tryd.prog 13 #[.pointer (some ⟨x, 0, none⟩), .int .i64 no] w fun r w' => CutQ w x p i F s K d S v vP vH L gs no r w' := by
  have hS := h.small
  have hpn := h.lv.pn
  have hhl := h.lv.hl
  have hlt := h.lv.on.hd.lt
  have hrm := h.rm
  refine (Cut_walk h.wb h.pt h.tab d h.ds (fun b hb => (h.ap b hb).1) (by omega) (by omega) (by omega) (by omega) h.places_ok (by rw [hhl]; exact h.lv.he) (by omega) hK no hno).mono ?_
  rintro r w' (⟨h1, h2, h3⟩ | ⟨k, e, s', F', h1, hk, hla, hpt, ht, hF, hr, hc⟩)
  · exact .inl ⟨fun e => h1 (by rw [hpn]; push_cast at e; exact e), h2, h3⟩
  · have htl := tab_lt h.tab
    have htab : Tab w' := tab_turn h.tab ht fun e => by
      rcases e with e | e
      · exact h.tf e
      · exact (h.ap _ e).2 rfl
    have htf : ¬ F' 0 := fun e => by
      rcases hF _ e with e | e
      · exact h.tf e
      · omega
    have hi := (List.getElem?_eq_some_iff.1 h.ds).1
    refine .inr ⟨ht, k, F', s', h1, by omega, hF, hpt, htab, htf, ?_, ?_⟩
    · intro j hj
      rcases hla with ⟨_, _, _, _, d', h5, _⟩ | ⟨_, _, _, d', h5, _⟩
      · rw [h5, List.getElem?_set_ne (fun e => hj e.symm)]
      · rw [h5, List.getElem?_set_ne (fun e => hj e.symm)]
    · rcases hc with ⟨rfl, vP', hw, hown⟩ | ⟨he, hw⟩
      · rcases hla with ⟨_, hon, hon', ⟨hf1, hf2⟩, d', h5, h6, h7, h8⟩ | ⟨h0, _⟩
        · rcases h.lv.cut (D' := dkD d') (dkD_whole d) (dkD_whole d') ha hn hk (by rw [h8]; exact fun q j _ => .inr rfl) with ⟨h9, _⟩ | ⟨_, h9⟩
          · exact absurd (fun q => by rw [h8]) h9
          · have hds : s'.ds[i]? = some d' := by rw [h5]; exact List.getElem?_set_self hi
            have hnw : ∀ b, WalG x vP' vH b → WalG x vP vH b := fun b hb => by
              rcases hb with e | e | e
              · exact .inl e
              · exact .inr (.inl (hown b e))
              · exact .inr (.inr e)
            refine .inl ⟨hf2, hr, hf1, d', vP', ⟨hw, hpt, htab, htf, hds, hon', h7, fun b hb => ⟨fun e => ?_, (h.ap b (hnw b hb)).2⟩, h9, by rw [h6]; exact h.rm⟩, h6, hnw⟩
            rcases hF b e with e | e
            · exact (h.ap b (hnw b hb)).1 e
            · have := h.glt (hnw b hb)
              omega
        · cases h0
      · rcases hla with ⟨h0, _⟩ | ⟨rfl, hoff, hfu, d1, h5, hwr⟩
        · exact absurd h0 he
        · refine .inr ⟨fun hf => ?_, hr, hoff, fun zs => ?_⟩
          · have := hfu hf
            rw [h.on] at this
            cases this
          · obtain ⟨d', q1, q2, q3, q4⟩ := laid_crash (.inr ⟨rfl, hoff, hfu, d1, h5, hwr⟩) hi h.dry zs
            have hk2 : v.first + k < 4294967296 := by omega
            refine ⟨d', q1, q2, q3, ?_, (h.lv.on.hd.renew Crc.sumN_lt (dkD_whole d) (dkD_whole d') (a' := v.age + 1) (f' := v.first + k) (by rw [h.lv.on.gr]; omega) ha hk2 q4).2.2.1⟩
            rcases h.lv.cut (D' := dkD d') (dkD_whole d) (dkD_whole d') ha hn hk q4 with ⟨_, h9⟩ | ⟨_, h9⟩
            · exact .inl h9
            · exact .inr h9.on.disk
def OpenQ (w : World) (p i : Nat) (F : Nat → Prop) (s : AP) (K : Nat) (d : AD) (S f : Nat) (L : List Wl.Rec) (r : Ending) (w' : World) : Prop :=
  Turn F w w' ∧ ∃ (F' : Nat → Prop) (s' : AP), (∀ b, F' b → F b ∨ w.heap.size ≤ b) ∧ PlantAt w' p F' s' (K + 2) ∧ Tab w' ∧ ¬ F' 0 ∧ (∀ j, j ≠ i → s'.ds[j]? = s.ds[j]?) ∧
    ((s.fuse ≠ 0 ∧ (s.fuse < 0 → s'.fuse = s.fuse) ∧ ∃ (x : Nat) (d' : AD) (v : WalV) (vP vH : Value) (gs : List Gp), r = .returned (.tuple #[.pointer (some ⟨x, 0, none⟩), .int .i64 0]) ∧ Lg w' x p i F' s' (K + 2) d' S v vP vH L gs ∧ d'.n = d.n ∧ v.first = f ∧ v.age = Wl.grt (dkD d) + 1 ∧ ∀ b, WalG x vP vH b → w.heap.size ≤ b) ∨
     (¬ s.fuse < 0 ∧ r = .returned (.tuple #[.pointer none, .int .i64 2]) ∧ s'.on = false ∧ ∀ zs : List Int, ∃ d', (s'.boot zs).ds[i]? = some d' ∧ d'.n = d.n ∧ d'.ws = [] ∧ Wl.DiskOk Crc.sumN (dkD d') S f L ∧ Wl.grt (dkD d') ≤ Wl.grt (dkD d) + 1))
def OpenR (w : World) (p i : Nat) (F : Nat → Prop) (s : AP) (K : Nat) (d : AD) (S f : Nat) (L : List Wl.Rec) (r : Ending) (w' : World) : Prop :=
  Turn F w w' ∧ ∃ (F' : Nat → Prop) (s' : AP), (∀ b, F' b → F b ∨ w.heap.size ≤ b) ∧ PlantAt w' p F' s' (K + 2) ∧ Tab w' ∧ ¬ F' 0 ∧ (∀ j, j ≠ i → s'.ds[j]? = s.ds[j]?) ∧
    ((s.fuse ≠ 0 ∧ (s.fuse < 0 → s'.fuse = s.fuse) ∧ ∃ (x : Nat) (d' : AD) (v : WalV) (vP vH : Value) (gs : List Gp), r = .returned (.tuple #[.pointer (some ⟨x, 0, none⟩), .int .i64 0]) ∧ Lg w' x p i F' s' (K + 2) d' S v vP vH L gs ∧ d'.n = d.n ∧ v.first = f ∧ v.age = Wl.grt (dkD d) + 1 ∧ (∀ b, WalG x vP vH b → w.heap.size ≤ b) ∧ Wl.Good Crc.sumN (dkD d) S f L gs ∧ v.seg = lastS gs ∧ v.used = lastU gs) ∨
     (¬ s.fuse < 0 ∧ r = .returned (.tuple #[.pointer none, .int .i64 2]) ∧ s'.on = false ∧ ∀ zs : List Int, ∃ d', (s'.boot zs).ds[i]? = some d' ∧ d'.n = d.n ∧ d'.ws = [] ∧ Wl.DiskOk Crc.sumN (dkD d') S f L ∧ Wl.grt (dkD d') ≤ Wl.grt (dkD d) + 1))
set_option maxHeartbeats 1000000 in
theorem open_fit {f : Nat} (hp : PlantAt w p F s K) (htab : Tab w) (htf : ¬ F 0) (hd : s.ds[i]? = some d) (hon : s.on = true) (hdry : d.ws = []) (hS : segsP s i = S) (hS0 : S ≠ 0) (hdk : Wl.DiskOk Crc.sumN (dkD d) S f L) (ha : Wl.grt (dkD d) + 1 < 4294967296) (hn : f + L.length < 4294967296) (hK : K + 2 < 1099511627775) :
    Calls Tryd.prog 15 #[.pointer (some ⟨p, 0, none⟩), .int .i64 (i : Int)] w fun r w' => OpenR w p i F s K d S f L r w' := by
  obtain ⟨slot, a, gs, h1, h2, h3⟩ := hdk
  have hsn : segsP s (i : Int) ≠ 0 := by rw [hS]; exact hS0
  have hrm := segs_room hd hsn
  rw [hS] at hrm
  refine (Open_walk hp htab (i : Int) htf hK (gs := gs) fun i' d' x' he hd' _ hx hwh => ?_).mono ?_
  · obtain rfl : i = i' := by omega
    obtain rfl : d = d' := Option.some.inj (hd.symm.trans hd')
    rw [hS, (hx.hd h1).2.1]
    exact ⟨L, h2⟩
  rintro r w' (⟨e, _⟩ | ⟨_, e, _⟩ | ⟨_, _, i', d', y, he, hd', hx, hc⟩)
  · exact absurd e hsn
  · rw [hon] at e
    cases e
  · obtain rfl : i = i' := by omega
    obtain rfl : d = d' := Option.some.inj (hd.symm.trans hd')
    obtain ⟨hq, hf, hwh⟩ := hx.hd h1
    have hg := hx.grt
    rcases hc with ⟨e, _⟩ | ⟨_, e, s', F', hla, hpt, ht, hF, hc⟩
    · rw [hwh] at e
      cases e
    · rw [hq, hf, hg] at hla
      have htl := tab_lt htab
      have htb : Tab w' := tab_turn htab ht htf
      have htf' : ¬ F' 0 := fun e => by
        rcases hF _ e with e | e
        · exact htf e
        · omega
      have hi := (List.getElem?_eq_some_iff.1 hd).1
      refine ⟨ht, F', s', hF, hpt, htb, htf', ?_, ?_⟩
      · intro j hj
        rcases hla with ⟨_, _, _, _, d', h5, _⟩ | ⟨_, _, _, d', h5, _⟩
        · rw [h5, List.getElem?_set_ne (fun e => hj e.symm)]
        · rw [h5, List.getElem?_set_ne (fun e => hj e.symm)]
      · rcases hc with ⟨rfl, x, vP, vH, hr, hw, hnew⟩ | ⟨rfl, hr⟩
        · rcases hla with ⟨_, _, hon', ⟨hf1, hf2⟩, d', h5, h6, h7, h8⟩ | ⟨h0, _⟩
          · rcases Wl.opened (D' := dkD d') Crc.sumN_lt (dkD_whole d) (dkD_whole d') h1 h2 h3 (by omega) ha hn (by rw [h8]; exact fun q j _ => .inr rfl) with ⟨h9, _⟩ | ⟨_, h9⟩
            · exact absurd (fun q => by rw [h8]) h9
            · have hds : s'.ds[i]? = some d' := by rw [h5]; exact List.getElem?_set_self hi
              rw [hq, hf, hg, hS] at hw
              refine .inl ⟨hf2, hf1, x, d', _, vP, vH, gs, hr, ⟨hw, hpt, htb, htf', hds, hon', h7, fun b hb => ⟨(hnew b hb).2, ?_⟩, Lgv.opened h9, by rw [h6]; exact hrm.1⟩, h6, rfl, ?_, fun b hb => (hnew b hb).1, h2, (adds_last rfl rfl gs).1, (adds_last rfl rfl gs).2⟩
              · have := (hnew b hb).1
                omega
              · show WalV.age _ + 1 = _
                rw [(adds_facts gs _).2.2.2.2.1]
          · cases h0
        · rcases hla with ⟨h0, _⟩ | ⟨_, hoff, hfu, d1, h5, hwr⟩
          · cases h0
          · refine .inr ⟨fun hf => ?_, hr, hoff, fun zs => ?_⟩
            · have := hfu hf
              rw [hon] at this
              cases this
            · obtain ⟨d', q1, q2, q3, q4⟩ := laid_crash (.inr ⟨rfl, hoff, hfu, d1, h5, hwr⟩) hi hdry zs
              refine ⟨d', q1, q2, q3, ?_⟩
              rcases Wl.opened (D' := dkD d') Crc.sumN_lt (dkD_whole d) (dkD_whole d') h1 h2 h3 (by omega) ha hn q4 with ⟨_, h9, h10⟩ | ⟨h8, h9⟩
              · exact ⟨h9, h10⟩
              · exact ⟨h9.disk, by rw [h9.gr]; exact Nat.le_refl _⟩
theorem open_ok {f : Nat} (hp : PlantAt w p F s K) (htab : Tab w) (htf : ¬ F 0) (hd : s.ds[i]? = some d) (hon : s.on = true) (hdry : d.ws = []) (hS : segsP s i = S) (hS0 : S ≠ 0) (hdk : Wl.DiskOk Crc.sumN (dkD d) S f L) (ha : Wl.grt (dkD d) + 1 < 4294967296) (hn : f + L.length < 4294967296) (hK : K + 2 < 1099511627775) :
    Calls Tryd.prog 15 #[.pointer (some ⟨p, 0, none⟩), .int .i64 (i : Int)] w fun r w' => OpenQ w p i F s K d S f L r w' := by
  refine (open_fit hp htab htf hd hon hdry hS hS0 hdk ha hn hK).mono ?_
  rintro r w' ⟨h1, F', s', h2, h3, h4, h5, h6, (⟨h7, h8, x, d', v, vP, vH, gs, g1, g2, g3, g4, g5, g6, _⟩ | h7)⟩
  · exact ⟨h1, F', s', h2, h3, h4, h5, h6, .inl ⟨h7, h8, x, d', v, vP, vH, gs, g1, g2, g3, g4, g5, g6⟩⟩
  · exact ⟨h1, F', s', h2, h3, h4, h5, h6, .inr h7⟩
end
end Go.Proofs.YtelipeoilcepbaaDoor
namespace Go.Proofs.YtelipeoilcepbaaDoor
open Go.RowKit
open Wl (B8 Gp live beg lastS lastU)
set_option linter.unusedVariables false
set_option linter.unusedSimpArgs false
set_option maxRecDepth 20000
open Wl in
theorem fresh_grt {D : Disk} (h1 : D 1 = z64) : grt (lay D 0 1 (hst Crc.sumN 1 0) z40) ≤ 1 := by
  have hok : (hst Crc.sumN 1 0).ok := ⟨by show 1 < _; omega, by show 0 < _; omega, by show (0 : Nat) < 128; omega, Crc.sumN_lt _⟩
  have htl : z40.length = 40 * 1 := rfl
  have ho1 : lay D 0 1 (hst Crc.sumN 1 0) z40 1 = z64 := by rw [lay_off (by omega)]; exact h1
  have hlay : ∀ j, j < 2 → tagAt (lay D 0 1 (hst Crc.sumN 1 0) z40) 0 j = (hst Crc.sumN 1 0).tag j := fun j hj => by
    have := lay_tag (D := D) (P := 0) (c := 1) (i := 0) (j := j) (s := hst Crc.sumN 1 0) htl (by omega) hj
    rw [Nat.add_zero, Nat.mul_zero, Nat.zero_add] at this
    exact this
  have a0 : ∀ j, j < 2 → ageAt (lay D 0 1 (hst Crc.sumN 1 0) z40) 0 j = 1 := fun j hj => by
    unfold ageAt
    rw [hlay j hj, tst_tag hok]
    rfl
  have a1 : ∀ j, j < 2 → ageAt (lay D 0 1 (hst Crc.sumN 1 0) z40) 1 j = 0 := fun j hj => by
    unfold ageAt
    rw [zero_tagAt ho1 hj]
    rfl
  unfold grt ages
  rw [a0 0 (by omega), a0 1 (by omega), a1 0 (by omega), a1 1 (by omega)]
  decide
theorem fmt_grt {D : Wl.Disk} {q S : Nat} (hq : q ≤ 1) : Wl.grt (fmtN D q S 4) ≤ 1 :=
  fresh_grt (by
    unfold erD
    rw [if_neg (by omega)]
    by_cases e : q = 1
    · rw [if_pos (by omega)]
    · rw [if_neg (by omega), if_pos (by omega)])
section
variable {w w' : World} {p i : Nat} {F : Nat → Prop} {s : AP} {K : Nat} {d : AD} {S : Nat}
theorem format_ok (hp : PlantAt w p F s K) (htab : Tab w) (htf : ¬ F 0) (hd : s.ds[i]? = some d) (hon : s.on = true) (hfu : s.fuse < 0) (hS : segsP s i = S) (hS0 : S ≠ 0) (hK : K + 65700 < 1099511627775) :
    Calls Tryd.prog 24 #[.pointer (some ⟨p, 0, none⟩), .int .i64 (i : Int)] w fun r w' => r = .returned (.int .i64 0) ∧ Turn F w w' ∧ ∃ (F' : Nat → Prop) (s' : AP) (d' : AD), (∀ b, F' b → F b ∨ w.heap.size ≤ b) ∧ PlantAt w' p F' s' (K + 65700) ∧ Tab w' ∧ ¬ F' 0 ∧ s'.ds = s.ds.set i d' ∧ s'.on = true ∧ s'.fuse = s.fuse ∧ d'.n = d.n ∧ d'.ws = [] ∧ Wl.DiskOk Crc.sumN (dkD d') S 0 [] ∧ Wl.grt (dkD d') ≤ 1 := by
  have hsn : segsP s (i : Int) ≠ 0 := by rw [hS]; exact hS0
  refine (Format_walk hp htab (i : Int) htf hK).mono ?_
  rintro r w' (⟨e, _⟩ | ⟨_, e, _⟩ | ⟨_, _, i', d1, x, j, sr, dr, e, s', F', he, hd', hx, hj, hfm, hla, hej, hr, hpt, ht, hF⟩)
  · exact absurd e hsn
  · rw [hon] at e
    cases e
  · obtain rfl : i = i' := by omega
    obtain rfl : d = d1 := Option.some.inj (hd.symm.trans hd')
    have hsf := hfm.fuse hfu
    have hi := (List.getElem?_eq_some_iff.1 hd).1
    rcases hla with ⟨rfl, _, hon', ⟨hf1, _⟩, d', h5, h6, h7, h8⟩ | ⟨_, _, h2, _⟩
    · obtain ⟨rfl, _⟩ := hej.1 rfl
      have htl := tab_lt htab
      rw [hS] at h8
      refine ⟨hr, ht, F', s', d', hF, hpt, tab_turn htab ht htf, fun e => ?_, by rw [h5, hfm.ds, List.set_set], hon', (hf1 (by omega)).trans hsf, h6.trans hfm.n, h7, ?_, ?_⟩
      · rcases hF _ e with e | e
        · exact htf e
        · omega
      · rw [h8]
        exact fmt_ok (dkD_whole d) hx.q_lt
      · rw [h8]
        exact fmt_grt hx.q_lt
    · have := h2 (by omega)
      rw [hfm.on, hon] at this
      cases this
end
end Go.Proofs.YtelipeoilcepbaaDoor
namespace Go.Proofs.YtelipeoilcepbaaDoor
open Go.RowKit
open Wl (B8)
set_option linter.unusedVariables false
set_option linter.unusedSimpArgs false
set_option maxRecDepth 20000
theorem wx_slice2 {P : Program} {a : Act} {o : Oper} {t : TypeId} {x y : Operand} {u v q : Value} {W W' : World} (ho : o.op = .buildSlice t 2 #[(0, x), (1, y)]) (hx : a.eval x = u) (hy : a.eval y = v)
    (h : (Instr.buildSlice t 2 #[(0, u), (1, v)]).run P W = .ok q W') : (execOp a.eval o).run P W = .ok (.value q) W' := by
  unfold execOp
  simp [ho, hx, hy, h]
theorem build_i2 (a b : Int) (W : World) : (Instr.buildSlice 34 2 #[(0, .int .i64 a), (1, .int .i64 b)]).run Tryd.prog W = .ok (.slice (some ⟨W.heap.size, 0, none⟩) 2 2) (W.alloc (.cells #[.int .i64 a, .int .i64 b] 3)) := by kernel_rfl
theorem ks_two (a b : Int) (W : World) : Ks (W.alloc (.cells #[.int .i64 a, .int .i64 b] 3)) nowhere (some ⟨W.heap.size, 0, none⟩) 2 [a, b] := by
  have hb := Blk.new W 3 #[.int .i64 a, .int .i64 b]
  refine ⟨rfl, by decide, fun _ => ⟨_, 0, rfl, hb.lt, fun e => e, fun i hi => ?_⟩⟩
  rw [Nat.zero_add, hb.cell]
  match i, hi with
  | 0, _ => rfl
  | 1, _ => rfl
theorem ptr_nilP {a : Act} {o : Oper} {W : World} {x y : Operand} {t u : TypeId} {p : Addr} (ho : o.op = .binOp .eql t x y u) (hx : a.eval x = .pointer (some p)) (hy : a.eval y = .pointer none) (ht : t = 25) : (execOp a.eval o).run Tryd.prog W = .ok (.value (.bool false)) W := by
  subst ht
  unfold execOp
  simp only [ho, hx, hy]
  go_simp
theorem segs_new {n : Nat} {r : List Int} (h : 258 ≤ n) (h2 : n ≤ 65536) : segsP (AP.new ((n : Int) :: r)) (0 : Nat) = (n - 2) / 64 := by
  rw [segsP_at (d := ⟨(n : Int), fun _ => none, []⟩) rfl]
  unfold segsN
  rw [if_neg (by show ¬ (n : Int) < 258; omega)]
  show min (((n : Int) - 2).toNat / 64) 1024 = _
  omega
def Dry (ds : List AD) : Prop := ∀ (j : Nat) (d : AD), ds[j]? = some d → d.ws = []
theorem dry_new (ns : List Int) : Dry (AP.new ns).ds := fun j d h => by
  unfold AP.new at h
  rw [List.getElem?_map] at h
  obtain ⟨n, _, rfl⟩ := Option.map_eq_some_iff.1 h
  rfl
theorem Dry.set {ds : List AD} (h : Dry ds) {i : Nat} {d : AD} (hd : d.ws = []) : Dry (ds.set i d) := fun j d' h' => by
  by_cases e : i = j
  · subst e
    rw [List.getElem?_set_self'] at h'
    cases h9 : ds[i]? with
    | none => rw [h9] at h'; cases h'
    | some y => rw [h9] at h'; cases h'; exact hd
  · rw [List.getElem?_set_ne e] at h'
    exact h j d' h'
theorem Dry.but {ds ds' : List AD} (h : Dry ds) {i : Nat} (hj : ∀ j, j ≠ i → ds'[j]? = ds[j]?) {d : AD} (hi : ds'[i]? = some d) (hd : d.ws = []) : Dry ds' := fun j d' h' => by
  by_cases e : j = i
  · subst e
    rw [hi] at h'
    cases h'
    exact hd
  · rw [hj j e] at h'
    exact h j d' h'
theorem Dry.total : ∀ {ds : List AD}, Dry ds → total ds = 0
  | [], _ => rfl
  | d :: ds, h => by
    have h1 := h 0 d rfl
    have h2 := Dry.total (ds := ds) fun j d' h' => h (j + 1) d' (by rw [List.getElem?_cons_succ]; exact h')
    unfold Go.Proofs.YtelipeoilcepbaaDoor.total at h2 ⊢
    rw [List.map_cons, List.sum_cons, h1, h2]
    rfl
theorem Dry.boot {s : AP} (h : Dry s.ds) (zs : List Int) : (s.boot zs).ds = s.ds := by
  unfold AP.boot
  rw [h.total]
  rfl
def GroundP (n : Nat) (w : World) (r : Ending) (w' : World) : Prop :=
  Turn nowhere w w' ∧ ∃ (p x : Nat) (F : Nat → Prop) (s : AP) (d : AD) (v : WalV) (vP vH : Value), r = .returned (.tuple #[.pointer (some ⟨p, 0, none⟩), .pointer (some ⟨x, 0, none⟩)]) ∧ Lg w' x p 0 F s 65702 d ((n - 2) / 64) v vP vH [] [] ∧ s.fuse < 0 ∧ v.first = 0 ∧ (1 ≤ v.age ∧ v.age ≤ 2) ∧ d.n = n ∧ (∀ b, F b → w.heap.size ≤ b) ∧ (∀ b, WalG x vP vH b → w.heap.size ≤ b) ∧ Dry s.ds
set_option maxRecDepth 20000 in
set_option maxHeartbeats 4000000 in
theorem ground_walk {w : World} (n : Nat) (hn : 258 ≤ n) (hn2 : n ≤ 65536) (htab : Tab w) : Calls Tryd.prog 6 #[.int .i64 (n : Int)] w fun r w' => GroundP n w r w' := by
  have HTAB := Lib.hid htab
  clear htab
  go_enter Tryd.func6, Tryd.ntmps6
  go_upto_region 0 with fail
  refine wp_region_lit ?_
  refine nR (.pointer none) (gx_assign rfl rfl) ?_;simp only [zz];refine nR (.pointer none) (gx_assign rfl rfl) ?_;simp only [zz]
  go_upto_region 1 with fail
  refine wp_region_lit ?_
  refine nR (.int .i64 (n : Int)) (exec_move rfl rfl) ?_;simp only [zz];refine wpList_run (v := .slice (some ⟨w.heap.size, 0, none⟩) 2 2) (w' := w.alloc (.cells #[.int .i64 (n : Int), .int .i64 300] 3)) (wanted_none rfl) (wx_slice2 rfl rfl rfl (build_i2 _ _ w)) ?_;simp only [zz]
  have HKS := Lib.hid (ks_two (n : Int) 300 w)
  have HT0 := Lib.hid ((Turn.refl nowhere w).alloc (.cells #[.int .i64 (n : Int), .int .i64 300] 3))
  obtain ⟨g, hg⟩ : ∃ g, g = w.heap.size := ⟨_, rfl⟩
  rw [← hg] at HKS ⊢
  clear hg
  generalize w.alloc (.cells #[.int .i64 (n : Int), .int .i64 300] 3) = w1 at *
  refine wpList_op (wanted_none rfl) fun K9 HK9 => ?_
  go_wp2_with fail
  refine (new_walk (some ⟨g, 0, none⟩) 2 2 [(n : Int), 300] HKS.out (by decide) (by decide)).mono ?_
  rintro e w2 (⟨_, p, F, rfl, hpl, ht, hF⟩ | ⟨hbad, _⟩)
  rotate_left
  · exact absurd (show sizesOk [(n : Int), 300] from ⟨by simp, by simp, fun z hz => by
      simp only [List.mem_cons, List.not_mem_nil, or_false] at hz
      rcases hz with rfl | rfl <;> omega⟩) hbad
  refine HK9.out _ _ ?_
  clear HK9
  try simp only [zz]
  have HPL := Lib.hid hpl
  have HT2 := Lib.hid (HT0.out.trans ht fun _ _ e => e)
  have HF := Lib.hid (show ∀ b, F b → w.heap.size ≤ b from fun b hb => Nat.le_trans HT0.out.size (hF b hb))
  have HTB2 := Lib.hid (tab_still HTAB.out HT2.out)
  have HTF := Lib.hid (show ¬ F 0 from fun e => by have := HF.out _ e; have := tab_lt HTAB.out; omega)
  have HSG := Lib.hid (segs_new (n := n) (r := [300]) hn hn2)
  have y0 : (n - 2) / 64 ≠ 0 := by omega
  clear hpl ht hF HT0 HKS
  refine nR (.tuple #[.pointer (some ⟨p, 0, none⟩), .int .i64 0]) (exec_move rfl rfl) ?_;simp only [zz];refine nR (.pointer (some ⟨p, 0, none⟩)) (ix_extract rfl rfl rfl) ?_;simp only [zz];refine nR (.int .i64 0) (ix_extract rfl rfl rfl) ?_;simp only [zz];refine nR (.pointer (some ⟨p, 0, none⟩)) (gx_assign rfl rfl) ?_;simp only [zz];refine nR (.int .i64 0) (gx_assign rfl rfl) ?_;simp only [zz]
  go_upto_region 2 with fail
  refine wp_region_lit ?_
  refine nR (.pointer (some ⟨p, 0, none⟩)) (exec_move rfl rfl) ?_;simp only [zz];refine nR (.bool false) (ptr_nilP rfl rfl rfl rfl) ?_;simp only [zz];refine nR (.bool false) (exec_move rfl rfl) ?_;simp only [zz];refine wpList_run (v := .int .i64 0) rfl (exec_move rfl rfl) ?_;simp only [zz];refine wpList_run (v := .bool false) rfl (ix_neq rfl rfl rfl (by decide)) ?_;simp only [zz];refine nR (.bool false) (ix_pickF rfl rfl rfl) ?_;simp only [zz]
  go_upto_region 4 with fail
  refine wp_region_lit ?_
  refine nR (.pointer (some ⟨p, 0, none⟩)) (exec_move rfl rfl) ?_;simp only [zz]
  have hfm := format_ok (i := 0) (d := ⟨(n : Int), fun _ => none, []⟩) HPL.out HTB2.out HTF.out rfl rfl (by show (-1 : Int) < 0; decide) HSG.out y0 (by decide)
  refine wpList_op rfl fun K9 HK9 => ?_
  go_wp2_with fail
  refine (hfm).mono ?_
  rintro e w3 ⟨rfl, ht, F3, s3, d3, hF3, hpl, htb, htf, hds, hon, hfu, hdn, hdry, hdk, hgr⟩
  refine HK9.out _ _ ?_
  clear HK9
  try simp only [zz]
  have HT3 := Lib.hid (HT2.out.trans ht fun b hb e => by have := HF.out b e; omega)
  have HF3 := Lib.hid (show ∀ b, F3 b → w.heap.size ≤ b from fun b hb => by
    rcases hF3 b hb with e | e
    · exact HF.out b e
    · exact Nat.le_trans HT2.out.size e)
  have HDRY := Lib.hid (show Dry s3.ds from by rw [hds]; exact (dry_new _).set hdry)
  have HD3 := Lib.hid (show s3.ds[0]? = some d3 from by rw [hds]; rfl)
  have HSG3 := Lib.hid (show segsP s3 (0 : Nat) = (n - 2) / 64 from by
    rw [segsP_at HD3.out, hdn]
    unfold segsN
    rw [if_neg (by show ¬ (n : Int) < 258; omega)]
    show min (((n : Int) - 2).toNat / 64) 1024 = _
    omega)
  have hop := open_ok (i := 0) (f := 0) (L := []) hpl htb htf HD3.out hon hdry HSG3.out y0 hdk (by omega) (by decide) (by decide)
  have HFU := Lib.hid (show s3.fuse < 0 from by rw [hfu]; show (-1 : Int) < 0; decide)
  have HDN := Lib.hid (show d3.n = (n : Int) from hdn)
  have HGR := Lib.hid hgr
  clear ht hF3 hds hon hfu hdn hdry hdk hgr hpl htb htf HPL HTB2 HTF HT2 HF
  refine nR (.int .i64 0) (gx_assign rfl rfl) ?_;simp only [zz]
  go_upto_region 5 with fail
  refine wp_region_lit ?_
  refine nR (.pointer (some ⟨p, 0, none⟩)) (exec_move rfl rfl) ?_;simp only [zz]
  refine wpList_op (wanted_none rfl) fun K9 HK9 => ?_
  go_wp2_with fail
  refine hop.mono ?_
  clear hop
  rintro e w4 ⟨ht, F4, s4, hF4, _, _, _, h4d, hc⟩
  rcases hc with ⟨_, hfu, x, d4, v, vP, vH, gs, rfl, hlg, hdn, hvf, hva, hnw⟩ | ⟨hfz, _⟩
  rotate_left
  · exact absurd HFU.out hfz
  refine HK9.out _ _ ?_
  clear HK9
  try simp only [zz]
  obtain rfl : gs = [] := List.eq_nil_of_length_eq_zero hlg.lv.on.good.len
  have HLG := Lib.hid hlg
  have HDRY4 := Lib.hid (HDRY.out.but h4d hlg.ds hlg.dry)
  have HT4 := Lib.hid (HT3.out.trans ht fun b hb e => by have := HF3.out b e; omega)
  have HFF := Lib.hid (show ∀ b, F4 b → w.heap.size ≤ b from fun b hb => by
    rcases hF4 b hb with e | e
    · exact HF3.out b e
    · exact Nat.le_trans HT3.out.size e)
  have HNW := Lib.hid (show ∀ b, WalG x vP vH b → w.heap.size ≤ b from fun b hb => Nat.le_trans HT3.out.size (hnw b hb))
  have HFZ := Lib.hid (show s4.fuse < 0 from by have := HFU.out; rw [hfu this]; exact this)
  have HVA := Lib.hid (show 1 ≤ v.age ∧ v.age ≤ 2 from by rw [hva]; have := HGR.out; omega)
  have HDD := Lib.hid (show d4.n = (n : Int) from hdn.trans HDN.out)
  clear ht hF4 hfu hlg hdn hva hnw HT3 HF3
  refine nR (.tuple #[.pointer (some ⟨x, 0, none⟩), .int .i64 0]) (exec_move rfl rfl) ?_;simp only [zz];refine nR (.pointer (some ⟨x, 0, none⟩)) (ix_extract rfl rfl rfl) ?_;simp only [zz];refine nR (.int .i64 0) (ix_extract rfl rfl rfl) ?_;simp only [zz];refine nR (.pointer (some ⟨x, 0, none⟩)) (gx_assign rfl rfl) ?_;simp only [zz];refine nR (.int .i64 0) (gx_assign rfl rfl) ?_;simp only [zz]
  go_upto_region 6 with fail
  refine wp_region_lit ?_
  refine nR (.int .i64 0) (exec_move rfl rfl) ?_;simp only [zz];refine nR (.bool false) (ix_neq rfl rfl rfl (by decide)) ?_;simp only [zz];refine nR (.bool false) (exec_move rfl rfl) ?_;simp only [zz];refine wpList_run (v := .int .i64 0) rfl (exec_move rfl rfl) ?_;simp only [zz];refine wpList_run (v := .bool false) rfl (ix_neq rfl rfl rfl (by decide)) ?_;simp only [zz];refine nR (.bool false) (ix_pickF rfl rfl rfl) ?_;simp only [zz]
  go_upto_region 8 with fail
  refine wp_region_lit ?_
  refine nR (.pointer (some ⟨p, 0, none⟩)) (exec_move rfl rfl) ?_;simp only [zz];refine nR (.pointer (some ⟨x, 0, none⟩)) (exec_move rfl rfl) ?_;simp only [zz];refine nR (.pointer (some ⟨p, 0, none⟩)) (gx_assign rfl rfl) ?_;simp only [zz];refine nR (.pointer (some ⟨x, 0, none⟩)) (gx_assign rfl rfl) ?_;simp only [zz]
  go_wp2_with fail
  go_ret2
  exact ⟨HT4.out, p, x, F4, s4, d4, v, vP, vH, rfl, HLG.out, HFZ.out, hvf, HVA.out, HDD.out, HFF.out, HNW.out, HDRY4.out⟩
end Go.Proofs.YtelipeoilcepbaaDoor
namespace Go.Proofs.YtelipeoilcepbaaDoor
open Go.RowKit
open Wl (B8 Gp live beg lastS lastU chain)
set_option linter.unusedVariables false
set_option linter.unusedSimpArgs false
set_option maxRecDepth 20000
theorem chain_at {D : Wl.Disk} {E : Nat} : ∀ {k P : Nat} {nx : Option Nat} {g : Gp}, g ∈ chain D E k P nx → Wl.grp D E g.P = some (g.s, g.t)
  | 0, P, nx, g, h => by simp [chain] at h
  | k + 1, P, nx, g, h => by
    cases hg : Wl.grp D E P with
    | none => rw [Wl.chain_none hg] at h; cases h
    | some y =>
      obtain ⟨s, t⟩ := y
      cases hn : Wl.nxOk nx s.no with
      | false => rw [Wl.chain_stop hg hn] at h; cases h
      | true =>
        rw [Wl.chain_some hg hn] at h
        rcases List.mem_cons.1 h with rfl | h
        · exact hg
        · exact chain_at h
theorem filter_two {α : Type} {A B C : α → Bool} : ∀ {r : List α}, (∀ a ∈ r, A a = true → B a = true ∨ C a = true) → (r.filter A).length ≤ (r.filter B).length + (r.filter C).length
  | [], _ => Nat.zero_le _
  | a :: r, h => by
    have ih := filter_two (r := r) fun b hb => h b (List.mem_cons_of_mem _ hb)
    rw [List.filter_cons, List.filter_cons, List.filter_cons]
    by_cases hA : A a = true
    · rw [if_pos hA]
      rcases h a (List.mem_cons_self ..) hA with e | e
      · rw [if_pos e]
        split <;> first | omega | (simp only [List.length_cons]; omega)
      · rw [if_pos e]
        split <;> first | omega | (simp only [List.length_cons]; omega)
    · rw [if_neg hA]
      split <;> split <;> first | omega | (simp only [List.length_cons]; omega)
theorem countP_two (ps : List Nat) : ∀ S : Nat, ((List.range S).filter fun sg => decide (0 < ps.countP fun P => decide ((P - 2) / 64 = sg))).length ≤ ps.length := by
  induction ps with
  | nil =>
    intro S
    rw [List.filter_eq_nil_iff.2 fun a _ => by rw [List.countP_nil]; decide]
    exact Nat.le_refl _
  | cons P ps ih =>
    intro S
    have h1 := ih S
    have h2 : ((List.range S).filter fun sg => decide (0 < (P :: ps).countP fun P => decide ((P - 2) / 64 = sg))).length ≤ ((List.range S).filter fun sg => decide (0 < ps.countP fun P => decide ((P - 2) / 64 = sg))).length + ((List.range S).filter fun sg => decide ((P - 2) / 64 = sg)).length := by
      refine filter_two fun a _ ha => ?_
      simp only [decide_eq_true_eq] at ha ⊢
      rw [List.countP_cons] at ha
      by_cases e : (P - 2) / 64 = a
      · exact .inr e
      · rw [if_neg (by simpa using e)] at ha
        exact .inl (by omega)
    have h3 : ((List.range S).filter fun sg => decide ((P - 2) / 64 = sg)).length ≤ 1 := by
      clear ih h1 h2
      induction S with
      | zero => simp
      | succ S ih =>
        rw [List.range_succ, List.filter_append, List.length_append]
        by_cases e : (P - 2) / 64 = S
        · have h4 : (List.range S).filter (fun sg => decide ((P - 2) / 64 = sg)) = [] := by
            rw [List.filter_eq_nil_iff]
            intro x hx
            have := List.mem_range.1 hx
            simp only [decide_eq_true_eq]
            omega
          rw [h4]
          simp [e]
        · simp [e]
          simpa using ih
    rw [List.length_cons]
    omega
section
variable {D : Wl.Disk} {S : Nat} {v : WalV} {L : List Wl.Rec} {gs : List Gp}
theorem Lgv.room (h : Lgv D S v L gs) (hL : L.length + 1 < S) (c : Nat) : v.pick c ≠ none := by
  unfold WalV.pick
  split
  · intro e
    cases e
  · intro e
    rw [Option.map_eq_none_iff] at e
    unfold freeK at e
    rw [List.find?_eq_none, h.hl] at e
    have h1 := countP_two v.places S
    have h2 : (List.range S).length ≤ ((List.range S).filter fun sg => decide (0 < v.places.countP fun P => decide ((P - 2) / 64 = sg))).length + ((List.range S).filter fun sg => decide (v.seg = sg)).length := by
      have h3 : ∀ sg ∈ List.range S, 0 < (v.places.countP fun P => decide ((P - 2) / 64 = sg)) ∨ v.seg = sg := fun sg hsg => by
        have h4 := e sg hsg
        unfold freeB at h4
        simp only [Bool.and_eq_true, decide_eq_true_eq, not_and] at h4
        have h5 := List.mem_range.1 hsg
        rw [h.he, heldOf_at _ h5] at h4
        rcases Nat.eq_zero_or_pos (v.places.countP fun P => decide ((P - 2) / 64 = sg)) with h6 | h6
        · have h7 := h4 (by rw [h6])
          exact .inr (by omega)
        · exact .inl h6
      revert h3
      generalize List.range S = r
      intro h3
      induction r with
      | nil => simp
      | cons a r ih =>
        have h5 := ih fun sg hsg => h3 sg (List.mem_cons_of_mem _ hsg)
        have h6 := h3 a (List.mem_cons_self ..)
        rw [List.filter_cons, List.filter_cons, List.length_cons]
        rcases h6 with h6 | h6
        · rw [if_pos (decide_eq_true h6)]
          split <;> first | omega | (simp only [List.length_cons]; omega)
        · rw [if_pos (decide_eq_true h6)]
          split <;> first | omega | (simp only [List.length_cons]; omega)
    have h3 : ((List.range S).filter fun sg => decide (v.seg = sg)).length ≤ 1 := by
      have := countP_two [v.seg * 64 + 2] S
      have e1 : ((List.range S).filter fun sg => decide (v.seg = sg)) = ((List.range S).filter fun sg => decide (0 < [v.seg * 64 + 2].countP fun P => decide ((P - 2) / 64 = sg))) := by
        refine List.filter_congr fun sg _ => ?_
        simp only [List.countP_cons, List.countP_nil]
        by_cases e2 : v.seg = sg
        · have : (v.seg * 64 + 2 - 2) / 64 = sg := by omega
          simp [e2, this]
        · have : ¬ (v.seg * 64 + 2 - 2) / 64 = sg := by omega
          simp [e2, this]
      rw [e1]
      exact this
    rw [List.length_range] at h2
    rw [h.pn] at h1
    omega
end
section
variable {w w' : World} {x p i : Nat} {F : Nat → Prop} {s : AP} {K : Nat} {d : AD} {S : Nat} {v : WalV} {vP vH : Value} {L : List Wl.Rec} {gs : List Gp}
theorem Lg.readV (h : Lg w x p i F s K d S v vP vH L gs) {k P : Nat} {l : Wl.Rec} (hk : v.places[k]? = some P) (hl : L[k]? = some l) : readV (dkD d) (2 + 64 * ((P - 2) / 64 + 1)) P (v.first + k) = some l := by
  rw [h.lv.pl, List.getElem?_map] at hk
  obtain ⟨g, hg, rfl⟩ := Option.map_eq_some_iff.1 hk
  have hgd := h.lv.on.good
  obtain ⟨sg, h1, h2, h3, h4⟩ := hgd.seg g (List.mem_of_getElem? hg)
  have hu := hgd.unp k g l hg hl
  have hno := hgd.no k g hg
  have hlv := hgd.liv sg h1
  have hm : g ∈ live (dkD d) (beg sg) v.first := by
    rw [hlv]
    exact List.mem_filter.2 ⟨List.mem_of_getElem? hg, by simp only [decide_eq_true_eq]; omega⟩
  have hc := chain_at (List.mem_filter.1 hm).1
  have hs : (g.P - 2) / 64 = sg := Wl.segOf_in h2 (by omega)
  unfold Go.Proofs.YtelipeoilcepbaaDoor.readV
  rw [hs, show 2 + 64 * (sg + 1) = beg sg + 64 from by unfold Wl.beg; omega, hc]
  show (match Wl.unpack Crc.sumN g.s g.t with | none => none | some l => if g.s.no = v.first + k then some l else none) = some l
  rw [hu]
  exact if_pos hno
theorem Lg.read (h : Lg w x p i F s K d S v vP vH L gs) (hn : v.first + L.length < 4294967296) (no : Int) (hno : -9223372036854775808 ≤ no ∧ no ≤ 9223372036854775807) :
    Calls Tryd.prog 20 #[.pointer (some ⟨x, 0, none⟩), .int .i64 no] w fun r w' => Turn nowhere w w' ∧
      ((¬ ((v.first : Int) ≤ no ∧ no < ((v.first + L.length : Nat) : Int)) ∧ r = .returned (.tuple #[.slice none 0 0, .int .i64 1])) ∨
       ∃ (k : Nat) (l : Wl.Rec) (g : Nat), no = ((v.first + k : Nat) : Int) ∧ L[k]? = some l ∧ r = .returned (.tuple #[.slice (some ⟨g, 0, none⟩) l.length l.length, .int .i64 0]) ∧ Ls w' (some ⟨g, 0, none⟩) l.length l ∧ w.heap.size ≤ g ∧ ∃ b0, w.heap.size ≤ b0 ∧ Firsts w' g b0 l.length l.length l) := by
  have hpn := h.lv.pn
  have hrm := h.rm
  refine (WalRead_walk h.wb h.pt h.tab d h.ds (by omega) (fun k P hk => by
    have h1 := h.places_ok k P hk
    rw [h.lv.hl] at h1
    exact ⟨h1.1, by have := h1.2.2; omega⟩) no hno).mono ?_
  rintro r w' ⟨ht, hc⟩
  refine ⟨ht, ?_⟩
  rcases hc with ⟨h1, h2⟩ | ⟨k, P, h1, h2, hc⟩
  · exact .inl ⟨fun e => h1 (by rw [hpn]; push_cast at e; exact e), h2⟩
  · have hkl : k < L.length := by
      have := (List.getElem?_eq_some_iff.1 h2).1
      omega
    have hrv := h.readV h2 (List.getElem?_eq_getElem hkl)
    rcases hc with ⟨e, _⟩ | ⟨_, e, _⟩ | ⟨_, l, g, e, hr, hls, hg⟩
    · rw [h.on] at e
      cases e
    · rw [hrv] at e
      cases e
    · rw [hrv] at e
      obtain rfl := Option.some.inj e
      exact .inr ⟨k, _, g, h1, List.getElem?_eq_getElem hkl, hr, hls, hg⟩
end
end Go.Proofs.YtelipeoilcepbaaDoor
