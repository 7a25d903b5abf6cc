/-
  plant's Write and Flush
-/
import Derived.Test.YtgdlidjjogoiaaaPlQ
namespace Go.Proofs.Ytgdlidjjogoiaaa
open Go.RowKit Go.Maps
set_option linter.unusedVariables false
def setV (dv : Nat → DV) (i : Nat) (v : DV) : Nat → DV := fun j => if j = i then v else dv j
section
variable {w w' : World} {p db : Nat} {C C' : Array Value} {ds : List AD} {dv : Nat → DV} {K K' : Nat} {F : Nat → Prop} {s : AP}
/-- one disk is turned -/
theorem DisksAt.upd (h : DisksAt w db C ds dv K) {i : Nat} (hi : i < ds.length) {d' : AD} {v' : DV} (hb : Blk w' db 62 C') (hs : C'.size = C.size) (hC : ∀ j, j < i * 4 ∨ i * 4 + 4 ≤ j → C'[j]? = C[j]?)
    (hd : DiskAt w' C' i d' v' K') (hK : K ≤ K') (ht : Turn (fun k => k = db ∨ (dv i).has k) w w') (hv : ∀ b, v'.has b → (dv i).has b ∨ w.heap.size ≤ b) : DisksAt w' db C' (ds.set i d') (setV dv i v') K' := by
  refine ⟨hb, by rw [List.length_set, hs]; exact h.size, fun j d hj => ?_, fun j k hj hk hjk b hb1 hb2 => ?_⟩
  · have hjl := (List.getElem?_eq_some_iff.1 hj).1
    rw [List.length_set] at hjl
    by_cases e : j = i
    · subst e
      rw [List.getElem?_set, if_pos rfl, if_pos hi] at hj
      cases hj
      unfold setV
      rw [if_pos rfl]
      exact hd
    · rw [List.getElem?_set, if_neg (Ne.symm e)] at hj
      unfold setV
      rw [if_neg e]
      refine (h.at_ j d hj).keep (fun b hb' => ht.block b (h.lt hjl hb') ?_) (fun m hm => hC _ (by omega)) hK
      rintro (rfl | hb2)
      · exact h.ne hjl hb' h.blk (by decide) rfl
      · exact h.apart j i hjl hi e b hb' hb2
  · rw [List.length_set] at hj hk
    unfold setV at hb1 hb2
    by_cases e : j = i
    · subst e
      rw [if_pos rfl] at hb1
      rw [if_neg (Ne.symm hjk)] at hb2
      rcases hv b hb1 with h1 | h1
      · exact h.apart j k hj hk hjk b h1 hb2
      · exact absurd (h.lt hk hb2) (by omega)
    · rw [if_neg e] at hb1
      by_cases e2 : k = i
      · subst e2
        rw [if_pos rfl] at hb2
        rcases hv b hb2 with h1 | h1
        · exact h.apart j k hj hk hjk b hb1 h1
        · exact absurd (h.lt hj hb1) (by omega)
      · rw [if_neg e2] at hb2
        exact h.apart j k hj hk hjk b hb1 hb2
theorem plf_upd {i n : Nat} {v' : DV} {m : Nat} (hi : i < n) (hv : ∀ b, v'.has b → (dv i).has b ∨ m ≤ b) : ∀ k, PlF p db n (setV dv i v') k → PlF p db n dv k ∨ m ≤ k := by
  rintro k (rfl | rfl | ⟨j, hj, hb⟩)
  · exact .inl (.inl rfl)
  · exact .inl (.inr (.inl rfl))
  · unfold setV at hb
    by_cases e : j = i
    · subst e
      rw [if_pos rfl] at hb
      rcases hv k hb with h1 | h1
      · exact .inl (.inr (.inr ⟨j, hj, h1⟩))
      · exact .inr h1
    · rw [if_neg e] at hb
      exact .inl (.inr (.inr ⟨j, hj, hb⟩))
theorem set3 (C : Array Value) (i : Nat) (v : Value) (h : i * 4 + 4 ≤ C.size) : (∀ j, j < i * 4 ∨ i * 4 + 4 ≤ j → (C.setIfInBounds (i * 4 + 3) v)[j]? = C[j]?) ∧ (C.setIfInBounds (i * 4 + 3) v)[i * 4 + 3]? = some v ∧ (∀ j, j < 3 → (C.setIfInBounds (i * 4 + 3) v)[i * 4 + j]? = C[i * 4 + j]?) := by
  refine ⟨fun j hj => ?_, ?_, fun j hj => ?_⟩
  · rw [Array.getElem?_setIfInBounds, if_neg (by omega)]
  · rw [Array.getElem?_setIfInBounds, if_pos rfl, if_pos (by omega)]
  · rw [Array.getElem?_setIfInBounds, if_neg (by omega)]
/-- a write that waits -/
def AP.put (s : AP) (i : Nat) (d : AD) (place : Int) (b : Sec) : AP := { s with fuse := burnt s.fuse, steps := s.steps + 1, ds := s.ds.set i { d with ws := d.ws ++ [(s.steps + 1, place, b)] } }
/-- the power goes off at a step -/
def AP.burn (s : AP) : AP := { s with on := false, fuse := -1 }
theorem step_burnP (h : PlantAt w p F s K) (h0 : s.fuse = 0) :
    Calls Try.prog 30 #[.pointer (some ⟨p, 0, none⟩)] w fun e w' => e = .returned (.int .i64 2) ∧ Goes2 w p F w' s.burn K := by
  obtain ⟨db, cap, C, dv, h1, hD, hF, g1, g2, g3, g4, g5, g6⟩ := id h
  have h1' := h1
  rw [h0] at h1'
  refine (step_burn p db _ cap _ _ w h1').mono fun e w' ⟨he, hb, ht⟩ => ⟨he, ?_⟩
  exact h.top hb hD hF ht h1 (Nat.le_refl _) (by omega) (by omega) g5 g6
theorem plant_u8 (db n c : Nat) (on : Bool) (fuse steps : Int) (j : Nat) (v : Int) : (plantCells db n c on fuse steps)[j]? ≠ some (.int .u8 v) := by
  match j with
  | 0 => simp [plantCells]
  | 1 => simp [plantCells]
  | 2 => simp [plantCells]
  | 3 => simp [plantCells]
  | j + 4 => simp [plantCells]
theorem bs_not_plant {a : Option Addr} {n : Nat} {bs : List UInt8} (hb : Bs w a n bs) (hn : 0 < n) {db m c : Nat} {on : Bool} {fuse steps : Int} (h1 : Blk w p 58 (plantCells db m c on fuse steps)) : ∃ b off, a = some ⟨b, off, none⟩ ∧ b ≠ p ∧ b < w.heap.size ∧ w.rangeAt b off (bcs bs) := by
  obtain ⟨hl, _, hc⟩ := hb
  obtain ⟨b, off, rfl, hcell⟩ := hc hn
  refine ⟨b, off, rfl, ?_, World.block_lt_of_cell? _ _ (hcell 0 hn), fun j v hv => ?_⟩
  · rintro rfl
    have := hcell 0 hn
    rw [h1.cell] at this
    exact plant_u8 _ _ _ _ _ _ _ _ this
  · have hj : j < bs.length := by
      have := (List.getElem?_eq_some_iff.1 hv).1
      rwa [bcs_length] at this
    rw [bcs_at bs j hj] at hv
    cases hv
    exact hcell j (by omega)
theorem write_bad (h : PlantAt w p F s K) (dev place k : Int) (hk : badPlace s dev place k) (a : Option Addr) (len cap : Nat) :
    Calls Try.prog 14 #[.pointer (some ⟨p, 0, none⟩), .int .i64 dev, .int .i64 place, .slice a len cap] w fun e w' => e = .returned (.int .i64 k) ∧ w = w' := by
  have hq := refP_any h dev place k hk
  have hk2 := bad_k hk
  have Hq := Lib.hid hq
  clear hq hk
  rcases hk2 with rfl | rfl
  all_goals
    go_enter Try.func14, Try.ntmps14
    go_wp2_with (go_at_call 29; refine Hq.out.mono ?_; rintro e w' ⟨rfl, rfl⟩)
    go_ret
    exact ⟨rfl, rfl⟩
theorem write_len (h : PlantAt w p F s K) (i : Nat) (d : AD) (hd : s.ds[i]? = some d) (hon : s.on = true) (place : Int) (hp : 0 ≤ place ∧ place < d.n) (a : Option Addr) (len cap : Nat) (hl : len ≠ 64) :
    Calls Try.prog 14 #[.pointer (some ⟨p, 0, none⟩), .int .i64 (i : Int), .int .i64 place, .slice a len cap] w fun e w' => e = .returned (.int .i64 32) ∧ w = w' := by
  have hq := refP_ok h i d hd hon place hp
  have Hq := Lib.hid hq
  have h1 : ((len : Int) != 64) = true := by
    rw [bne_iff_ne]
    omega
  clear hq hd hon hl
  go_enter Try.func14, Try.ntmps14
  go_wp2_with (go_at_call 29; refine Hq.out.mono ?_; rintro e w' ⟨rfl, rfl⟩)
  go_ret
  exact ⟨rfl, rfl⟩
theorem write_burn (h : PlantAt w p F s K) (i : Nat) (d : AD) (hd : s.ds[i]? = some d) (hon : s.on = true) (place : Int) (hp : 0 ≤ place ∧ place < d.n) (h0 : s.fuse = 0) (a : Option Addr) (cap : Nat) :
    Calls Try.prog 14 #[.pointer (some ⟨p, 0, none⟩), .int .i64 (i : Int), .int .i64 place, .slice a 64 cap] w fun e w' => e = .returned (.int .i64 2) ∧ Goes2 w p F w' s.burn K := by
  have hq := refP_ok h i d hd hon place hp
  have hst := step_burnP h h0
  have Hq := Lib.hid hq
  have Hs := Lib.hid hst
  clear hq hd hon hst h0
  go_enter Try.func14, Try.ntmps14
  go_wp2_with (first
    | (go_at_call 29; refine Hq.out.mono ?_; rintro e w' ⟨rfl, rfl⟩)
    | (go_at_call 30; refine Hs.out.mono ?_; rintro e w1 ⟨rfl, hg⟩; have Hg := Lib.hid hg; clear hg))
  go_ret
  exact ⟨rfl, Hg.out⟩
end
end Go.Proofs.Ytgdlidjjogoiaaa
