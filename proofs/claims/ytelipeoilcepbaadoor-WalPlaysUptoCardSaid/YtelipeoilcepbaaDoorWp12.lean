/-
  Texts in one file: PlU PlV PlW PlX. Conditions: the tables and the errors read as the program's text lays them.
-/
import Derived.Test.YtelipeoilcepbaaDoorWp11
import Derived.BigGuardPart
import Derived.Deep.LoopGhost
import Derived.Laws.BitsAllLaws
import Derived.Laws.BitsLemmas
namespace Go.Proofs.YtelipeoilcepbaaDoor
open Go.RowKit Go.Maps
set_option maxRecDepth 20000
set_option linter.unusedVariables false
section
variable {w w' : World} {p db : Nat} {C C' : Array Value} {ds : List AD} {dv : Nat → DV} {K K' : Nat} {F : Nat → Prop} {s : AP}
def AP.flushed (s : AP) (i : Nat) (d : AD) : AP := { s with fuse := burnt s.fuse, steps := s.steps + 1, ds := s.ds.set i { d with fl := over (lastW d.ws) d.fl, ws := [] } }
theorem refuse_bad (h : PlantAt w p F s K) (dev k : Int) (hk : refuseCode s.on s.ds.length dev = k) :
    Calls Tryd.prog 69 #[.pointer (some ⟨p, 0, none⟩), .int .i64 dev] w fun e w' => e = .returned (.int .i64 k) ∧ w = w' := by
  obtain ⟨db, cap, C, dv, h1, hD, _⟩ := h
  rw [← hk]
  exact refuse_any p db _ cap _ _ _ dev w h1
theorem refuse_ok (h : PlantAt w p F s K) (i : Nat) (d : AD) (hd : s.ds[i]? = some d) (hon : s.on = true) :
    Calls Tryd.prog 69 #[.pointer (some ⟨p, 0, none⟩), .int .i64 (i : Int)] w fun e w' => e = .returned (.int .i64 0) ∧ w = w' :=
  refuse_bad h i 0 (by
    have := (List.getElem?_eq_some_iff.1 hd).1
    simp [refuseCode, hon, this])
theorem flush_burn (h : PlantAt w p F s K) (i : Nat) (d : AD) (hd : s.ds[i]? = some d) (hon : s.on = true) (h0 : s.fuse = 0) :
    Calls Tryd.prog 53 #[.pointer (some ⟨p, 0, none⟩), .int .i64 (i : Int)] w fun e w' => e = .returned (.int .i64 2) ∧ Goes2 w p F w' s.burn K := by
  have hq := refuse_ok h i d hd hon
  have hst := step_burnP h h0
  have Hq := Lib.hid hq
  have Hs := Lib.hid hst
  clear hq hd hon hst h0
  go_enter Tryd.func53, Tryd.ntmps53
  go_wp2_with (first
    | (go_at_call 69; refine Hq.out.mono ?_; rintro e w' ⟨rfl, rfl⟩)
    | (go_at_call 67; refine Hs.out.mono ?_; rintro e w1 ⟨rfl, hg⟩; have Hg := Lib.hid hg; clear hg))
  go_ret
  exact ⟨rfl, Hg.out⟩
theorem set23 (C : Array Value) (i : Nat) (u v : Value) (h : i * 4 + 4 ≤ C.size) : (∀ j, j < i * 4 ∨ i * 4 + 4 ≤ j → ((C.setIfInBounds (i * 4 + 2) u).setIfInBounds (i * 4 + 3) v)[j]? = C[j]?) ∧ ((C.setIfInBounds (i * 4 + 2) u).setIfInBounds (i * 4 + 3) v)[i * 4 + 3]? = some v ∧
    ((C.setIfInBounds (i * 4 + 2) u).setIfInBounds (i * 4 + 3) v)[i * 4 + 2]? = some u ∧ (∀ j, j < 2 → ((C.setIfInBounds (i * 4 + 2) u).setIfInBounds (i * 4 + 3) v)[i * 4 + j]? = C[i * 4 + j]?) := by
  refine ⟨fun j hj => ?_, ?_, ?_, fun j hj => ?_⟩
  · rw [Array.getElem?_setIfInBounds, if_neg (by omega), Array.getElem?_setIfInBounds, if_neg (by omega)]
  · rw [Array.getElem?_setIfInBounds, if_pos rfl, if_pos (by simp; omega)]
  · rw [Array.getElem?_setIfInBounds, if_neg (by omega), Array.getElem?_setIfInBounds, if_pos rfl, if_pos (by omega)]
  · rw [Array.getElem?_setIfInBounds, if_neg (by omega), Array.getElem?_setIfInBounds, if_neg (by omega)]
set_option maxHeartbeats 1000000 in
theorem flush_ok (h : PlantAt w p F s K) (i : Nat) (d : AD) (hd : s.ds[i]? = some d) (hon : s.on = true) (h0 : s.fuse ≠ 0) (hK : K < 1099511627775) :
    Calls Tryd.prog 53 #[.pointer (some ⟨p, 0, none⟩), .int .i64 (i : Int)] w fun e w' => e = .returned (.int .i64 0) ∧ Goes2 w p F w' (s.flushed i d) (K + 1) := by
  have hq := refuse_ok h i d hd hon
  obtain ⟨db, cp, C, dv, h1, hD, hF, g1, g2, g3, g4, g5, g6⟩ := id h
  have hi := (List.getElem?_eq_some_iff.1 hd).1
  have hA := hD.at_ i d hd
  have hst := step_on p db s.ds.length cp s.on s.fuse s.steps w h1 h0 g3 g4 g5 (by omega)
  have z1 : (0 : Int) ≤ (i : Int) := by omega
  have z2 : (i : Int) < (s.ds.length : Int) := by omega
  have Hq := Lib.hid hq
  have Hs := Lib.hid hst
  have HD := Lib.hid hD
  have H1 := Lib.hid h1
  have HA := Lib.hid hA
  have Hn := Lib.hid hF
  clear hq hd hst h0 hA hD h h1 hF
  generalize hnn : s.ds.length = n at *
  have HN := Lib.hid hnn
  clear hnn
  go_enter Tryd.func53, Tryd.ntmps53
  go_wp2_with (first
    | (go_at_call 69; refine Hq.out.mono ?_; rintro e w' ⟨rfl, rfl⟩)
    | (go_at_call 67; refine Hs.out.mono ?_; rintro e w1 ⟨rfl, hb1, ht1⟩; have HT := Lib.hid ht1; clear ht1; have c0 : w1.cell? ⟨p, 0, none⟩ = some (.slice (some ⟨db, 0, none⟩) n cp) := hb1.cell 0))
  obtain ⟨n1, hn1a, hn1b⟩ := HA.out.fl
  have hi : i < s.ds.length := by rw [HN.out]; exact hi
  have hTd : Turn (only p) w w1 := HT.out
  have hdb : ¬ only p db := Blk.ne_ HD.out.blk H1.out (by decide)
  have hnp : ∀ b, (dv i).has b → ¬ only p b := fun b hb e => HD.out.ne hi hb H1.out (by decide) e.symm
  have hsz := HD.out.size
  rw [HN.out] at hsz
  refine (flush_walk db (i * 4) (dv i).fl (dv i).nw n1 d.ws.length d.fl (lastW d.ws) C w1 (HD.out.blk.turn hTd hdb) HA.out.c1 HA.out.c2 (by omega) (hn1b.turn hTd (hnp _ (.inl rfl))) (HA.out.nw.turn hTd (hnp _ (.inr (.inl rfl)))) HA.out.ne (by omega)).mono ?_
  rintro e w2 ⟨rfl, nw', hnw, q1, q2, q3, q5⟩
  obtain ⟨s1, s2, s4, s3⟩ := set23 C i (.map (some nw')) (.slice none 0 0) (by omega)
  have hA := HA.out
  have hne : (dv i).fl ≠ nw' := by
    have := (hn1b.turn hTd (hnp _ (.inl rfl))).lt
    omega
  have hDA : DiskAt w2 ((C.setIfInBounds (i * 4 + 2) (.map (some nw'))).setIfInBounds (i * 4 + 3) (.slice none 0 0)) i { d with fl := over (lastW d.ws) d.fl, ws := [] } { fl := (dv i).fl, nw := nw', wv := .slice none 0 0 } (K + 1) := {
    c0 := (s3 0 (by omega)).trans hA.c0
    c1 := (s3 1 (by omega)).trans hA.c1
    c2 := s4
    c3 := s2
    ne := hne
    fl := ⟨n1 + d.ws.length, by simp; omega, q2⟩
    nw := q3
    ws := World.ownsRow_nil w2 0 _ _
    wf := fun x hx => by cases hx
    n0 := hA.n0 }
  have hTw : Turn (fun k => k = db ∨ (dv i).has k) w1 w2 := q5.mono fun k _ e => by
    rcases e with e | e
    · exact .inl e
    · exact .inr (.inl e)
  have hD1 : DisksAt w1 db C s.ds dv K := HD.out.keep (hTd.block _ HD.out.blk.lt hdb) (fun j hj b hb => hTd.block _ (HD.out.lt hj hb) fun e => HD.out.ne hj hb H1.out (by decide) e.symm) (Nat.le_refl _)
  have hv : ∀ b, ({ fl := (dv i).fl, nw := nw', wv := .slice none 0 0 } : DV).has b → (dv i).has b ∨ w1.heap.size ≤ b := by
    rintro k (e | e | e)
    · exact .inl (.inl e)
    · exact .inr (e ▸ hnw)
    · cases e
  have hD2 := hD1.upd hi q1 (by simp) s1 hDA (by omega) hTw hv
  have hb2 : Blk w2 p 82 (plantCells db n cp s.on (burnt s.fuse) (s.steps + 1)) := hb1.turn hTw (by
    rintro (e | e)
    · exact hdb e.symm
    · exact hnp p e rfl)
  have hsz1 := hTd.size
  have hG : Goes2 w p F w2 (s.flushed i d) (K + 1) := by
    refine ⟨PlF p db n (setV dv i { fl := (dv i).fl, nw := nw', wv := .slice none 0 0 }), ⟨db, cp, _, _, ?_, hD2, ?_, ?_, ?_, ?_, ?_, ?_, ?_⟩, ?_, ?_⟩
    · simpa [AP.flushed, HN.out] using hb2
    · simp [AP.flushed, HN.out]
    · simpa [AP.flushed, HN.out] using g1
    · simpa [AP.flushed, HN.out] using g2
    · simp only [AP.flushed, burnt]; split <;> omega
    · simp only [AP.flushed, burnt]; split <;> omega
    · simp only [AP.flushed]; omega
    · simp only [AP.flushed]; omega
    · refine (hTd.mono fun k _ e => ?_).trans hTw fun k _ e => ?_
      · rw [Hn.out]
        exact .inl e
      · rw [Hn.out]
        rcases e with e | e
        · exact .inr (.inl e)
        · exact .inr (.inr ⟨i, by rw [← HN.out]; exact hi, e⟩)
    · intro k hk
      rw [Hn.out]
      rcases plf_upd (by rw [← HN.out]; exact hi) hv k hk with e | e
      · exact .inl e
      · exact .inr (by omega)
  have HG := Lib.hid hG
  clear hG hD2 hD1 hb2 hDA q1 q2 q3 q5 hTw hv s1 s2 s3 s4 hA
  go_wp2
  go_ret
  exact ⟨rfl, HG.out⟩
theorem fuseP (h : PlantAt w p F s K) (m : Int) (hm : -9223372036854775808 ≤ m ∧ m ≤ 9223372036854775807) :
    Calls Tryd.prog 21 #[.pointer (some ⟨p, 0, none⟩), .int .i64 m] w fun e w' => e = .returned (.tuple #[]) ∧ Goes2 w p F w' { s with fuse := if s.on then m else s.fuse } K := by
  obtain ⟨db, cp, C, dv, h1, hD, hF, g1, g2, g3, g4, g5, g6⟩ := id h
  refine (fuse_any p db _ cp _ _ _ w m h1).mono fun e w' ⟨he, hb, ht⟩ => ⟨he, ?_⟩
  exact h.top hb hD hF ht h1 (Nat.le_refl _) (by split <;> omega) (by split <;> omega) g5 g6
theorem lenP_bad (h : PlantAt w p F s K) (dev : Int) (hd : ¬ (0 ≤ dev ∧ dev < s.ds.length)) :
    Calls Tryd.prog 55 #[.pointer (some ⟨p, 0, none⟩), .int .i64 dev] w fun e w' => e = .returned (.tuple #[.int .i64 0, .int .i64 31]) ∧ w = w' := by
  obtain ⟨db, cp, C, dv, h1, _⟩ := h
  exact len_bad p db _ cp _ _ _ dev w h1 hd
theorem lenP_good (h : PlantAt w p F s K) (i : Nat) (d : AD) (hd : s.ds[i]? = some d) :
    Calls Tryd.prog 55 #[.pointer (some ⟨p, 0, none⟩), .int .i64 (i : Int)] w fun e w' => e = .returned (.tuple #[.int .i64 d.n, .int .i64 0]) ∧ w = w' := by
  obtain ⟨db, cp, C, dv, h1, hD, _, _, g2, _⟩ := h
  exact len_good p db _ cp _ _ _ w C d.n i h1 hD.blk (List.getElem?_eq_some_iff.1 hd).1 (hD.at_ i d hd).c0 g2
end
end Go.Proofs.YtelipeoilcepbaaDoor
namespace Go.Proofs.YtelipeoilcepbaaDoor
open Go.RowKit Go.Maps
set_option maxRecDepth 20000
set_option linter.unusedVariables false
structure MidAt (w : World) (C : Array Value) (i : Nat) (d : AD) (v : DV) (K : Nat) : Prop where
  c0 : C[i * 4]? = some (.int .i64 d.n)
  c1 : C[i * 4 + 1]? = some (.map (some v.fl))
  fl : ∃ n1, n1 + d.ws.length ≤ K ∧ MapAt w kI eS v.fl n1 d.fl
  ws : ∃ A cap, C[i * 4 + 3]? = some (.slice A d.ws.length cap) ∧ d.ws.length ≤ cap ∧ cap ≤ 9223372036854775807 ∧ (0 < d.ws.length → ∃ g off, A = some ⟨g, off, none⟩ ∧ w.rangeAt g off (d.ws.flatMap wtCells) ∧ ∃ cs, Blk w g 117 cs)
  wf : ∀ x ∈ d.ws, (Lit.int .i64 x.2.1).wf = true
  n0 : 1 ≤ d.n ∧ d.n ≤ 65536
structure MidsAt (w : World) (db : Nat) (C : Array Value) (ds : List AD) (dv : Nat → DV) (K : Nat) : Prop where
  blk : Blk w db 88 C
  size : ds.length * 4 ≤ C.size
  at_ : ∀ i d, ds[i]? = some d → MidAt w C i d (dv i) K
  apart : ∀ i j, i < ds.length → j < ds.length → i ≠ j → (dv i).fl ≠ (dv j).fl
def headStep (d : AD) : Int := match d.ws with
  | x :: _ => x.1
  | [] => 0
def stepAt (ds : List AD) (i : Nat) : Int := match ds[i]? with
  | some d => headStep d
  | none => 0
def waitsAt (ds : List AD) (i : Nat) : Nat := match ds[i]? with
  | some d => d.ws.length
  | none => 0
def pick (ds : List AD) : Nat → Option Nat
  | 0 => none
  | k + 1 => if 0 < waitsAt ds k then (match pick ds k with
      | none => some k
      | some j => if stepAt ds k < stepAt ds j then some k else some j) else pick ds k
def ptrOf (db : Nat) : Option Nat → Value
  | none => .pointer none
  | some j => .pointer (some ⟨db, j * 4, none⟩)
theorem pick_some (ds : List AD) : ∀ k j, pick ds k = some j → j < k ∧ 0 < waitsAt ds j
  | 0, j, h => by cases h
  | k + 1, j, h => by
    unfold pick at h
    split at h
    · rename_i hw
      cases hp : pick ds k with
      | none =>
        rw [hp] at h
        cases h
        exact ⟨by omega, hw⟩
      | some m =>
        rw [hp] at h
        simp only at h
        split at h
        · cases h
          exact ⟨by omega, hw⟩
        · cases h
          have := pick_some ds k _ hp
          exact ⟨by omega, this.2⟩
    · have := pick_some ds k _ h
      exact ⟨by omega, this.2⟩
theorem MidsAt.cells {w : World} {db : Nat} {C : Array Value} {ds : List AD} {dv : Nat → DV} {K : Nat} (h : MidsAt w db C ds dv K) {i : Nat} (hi : i < ds.length) :
    ∃ A cap, w.cell? ⟨db, i * 4 + 3, none⟩ = some (.slice A (waitsAt ds i) cap) ∧ waitsAt ds i ≤ cap ∧ cap ≤ 9223372036854775807 ∧ (0 < waitsAt ds i → ∃ g off, A = some ⟨g, off, none⟩ ∧ w.cell? ⟨g, off, none⟩ = some (.int .i64 (stepAt ds i))) := by
  obtain ⟨A, cap, h1, h2, h3, h4⟩ := (h.at_ i ds[i] (List.getElem?_eq_getElem hi)).ws
  have e : waitsAt ds i = ds[i].ws.length := by simp [waitsAt, hi]
  rw [e]
  refine ⟨A, cap, (h.blk.cell _).trans h1, h2, h3, fun hp => ?_⟩
  obtain ⟨g, off, rfl, hr, _⟩ := h4 hp
  refine ⟨g, off, rfl, ?_⟩
  have e2 : stepAt ds i = headStep ds[i] := by simp [stepAt, hi]
  rw [e2]
  cases hw : ds[i].ws with
  | nil => rw [hw] at hp; simp at hp
  | cons x r =>
    have := hr 0 (.int .i64 x.1) (by rw [hw]; simp [wtCells])
    simpa [headStep, hw] using this
set_option maxHeartbeats 1000000 in
theorem longest_walk (p db c : Nat) (on : Bool) (fuse steps : Int) (ds : List AD) (C : Array Value) (dv : Nat → DV) (K : Nat) (w : World) (hb : Blk w p 82 (plantCells db ds.length c on fuse steps)) (hD : MidsAt w db C ds dv K) (hn : ds.length ≤ 4) :
    Calls Tryd.prog 43 #[.pointer (some ⟨p, 0, none⟩)] w fun e w' => e = .returned (ptrOf db (pick ds ds.length)) ∧ ∃ m, w' = w.drewN m := by
  have c0 : w.cell? ⟨p, 0, none⟩ = some (.slice (some ⟨db, 0, none⟩) ds.length c) := hb.cell 0
  have hcell := fun i (hi : i < ds.length) => hD.cells hi
  have HC := Lib.hid hcell
  clear hcell hb hD
  generalize hnn : ds.length = n at *
  have HN := Lib.hid hnn
  clear hnn
  go_enter Tryd.func43, Tryd.ntmps43
  go_wp2
  go_loopw [3, 11] (fun f i wr => ∃ k m : Nat, k ≤ n ∧ i = .int .i64 k ∧ f = ptrOf db (pick ds k) ∧ wr = w.drewN m) (fun _ i _ => n - (intOf i).toNat)
  case atStart => exact ⟨0, 0, Nat.zero_le _, rfl, rfl, rfl⟩
  case round =>
    obtain ⟨k, m, hk, rfl, rfl, rfl⟩ := hrel
    by_cases hlt : k < n
    · obtain ⟨A, cap, h1, h2, h3, h4⟩ := HC.out k hlt
      have z1 : (0 : Int) ≤ (k : Int) := by omega
      have z2 : (k : Int) < (n : Int) := by omega
      by_cases hw : 0 < waitsAt ds k
      · obtain ⟨g, off, rfl, hg⟩ := h4 hw
        clear h4
        have zw : (0 : Int) < (waitsAt ds k : Int) := by omega
        have zd : decide ((0 : Int) < (waitsAt ds k : Int)) = true := by simp [hw]
        cases hp : pick ds k with
        | none =>
          have e : pick ds (k + 1) = some k := by rw [pick, if_pos hw, hp]
          have E := Lib.hid e
          clear e
          have hnil : ptrOf db (Option.none : Option Nat) = .pointer none := rfl
          rw [hnil]
          have HP := Lib.hid hp
          clear hp hnil
          generalize stepAt ds k = sk at *
          generalize waitsAt ds k = wk at *
          go_wp2_with fail
          go_quiet (fail)
          go_wp2
          go_roundw
          case rel => exact ⟨k + 1, _, by omega, by go_num, by rw [E.out]; rfl, rfl⟩
          case measure => simp [intOf]; omega
        | some j =>
          obtain ⟨hj, hwj⟩ := pick_some ds k j hp
          obtain ⟨Aj, cj, j1, j2, j3, j4⟩ := HC.out j (by omega)
          obtain ⟨gj, oj, rfl, hgj⟩ := j4 hwj
          clear j4
          have zj : (0 : Int) < (waitsAt ds j : Int) := by omega
          have hnil : ptrOf db (some j) = .pointer (some ⟨db, j * 4, Option.none⟩) := rfl
          rw [hnil]
          by_cases hs : stepAt ds k < stepAt ds j
          · have e : pick ds (k + 1) = some k := by rw [pick, if_pos hw, hp]; simp [hs]
            have E := Lib.hid e
            have HP := Lib.hid hp
            clear e hp hnil
            generalize stepAt ds k = sk at *
            generalize stepAt ds j = sj at *
            generalize waitsAt ds k = wk at *
            generalize waitsAt ds j = wj at *
            go_wp2_with fail
            go_quiet (fail)
            go_wp2
            go_roundw
            case rel => exact ⟨k + 1, _, by omega, by go_num, by rw [E.out]; rfl, rfl⟩
            case measure => simp [intOf]; omega
          · have e : pick ds (k + 1) = some j := by rw [pick, if_pos hw, hp]; simp [hs]
            have E := Lib.hid e
            have HP := Lib.hid hp
            clear e hp hnil
            generalize stepAt ds k = sk at *
            generalize stepAt ds j = sj at *
            generalize waitsAt ds k = wk at *
            generalize waitsAt ds j = wj at *
            have hs : sj ≤ sk := by omega
            go_wp2_with fail
            go_quiet (fail)
            go_wp2
            go_roundw
            case rel => exact ⟨k + 1, _, by omega, by go_num, by rw [E.out]; rfl, rfl⟩
            case measure => simp [intOf]; omega
      · have hw0 : waitsAt ds k = 0 := by omega
        rw [hw0] at h1
        have e : pick ds (k + 1) = pick ds k := by rw [pick, if_neg hw]
        have E := Lib.hid e
        clear h4 e hw hw0 h2
        generalize hpp : ptrOf db (pick ds k) = pp
        have HP := Lib.hid hpp
        clear hpp
        go_wp2_with fail
        go_quiet (fail)
        go_wp2
        go_roundw
        case rel => exact ⟨k + 1, _, by omega, by go_num, by rw [E.out]; exact HP.out.symm, rfl⟩
        case measure => simp [intOf]; omega
    · obtain rfl : k = n := by omega
      go_wp2
      go_ret
      exact ⟨rfl, _, rfl⟩
end Go.Proofs.YtelipeoilcepbaaDoor
namespace Go.Proofs.YtelipeoilcepbaaDoor
open Go.RowKit Go.Maps
set_option maxRecDepth 20000
set_option linter.unusedVariables false
def bootOne (k : Int) (j : Nat) (ds : List AD) : List AD := match ds[j]? with
  | some d => (match d.ws with
    | x :: r => ds.set j { d with fl := bootFl k x.2.1 x.2.2 d.fl, ws := r }
    | [] => ds)
  | none => ds
def bootRun (kf : Nat → Int) : Nat → Nat → List AD → List AD
  | 0, _, ds => ds
  | f + 1, i, ds => match pick ds ds.length with
    | some j => bootRun kf f (i + 1) (bootOne (kf i) j ds)
    | none => ds
def total (ds : List AD) : Nat := (ds.map fun d => d.ws.length).sum
theorem total_set : ∀ (ds : List AD) (j : Nat) (d d' : AD), ds[j]? = some d → d.ws.length = d'.ws.length + 1 → total ds = total (ds.set j d') + 1
  | [], j, d, d', h, _ => by simp at h
  | e :: r, 0, d, d', h, hl => by
    simp only [List.getElem?_cons_zero, Option.some.injEq] at h
    subst h
    simp [total, hl]
    omega
  | e :: r, j + 1, d, d', h, hl => by
    have := total_set r j d d' (by simpa using h) hl
    simp only [List.set_cons_succ, total, List.map_cons, List.sum_cons] at this ⊢
    omega
theorem bootOne_length (k : Int) (j : Nat) (ds : List AD) : (bootOne k j ds).length = ds.length := by
  unfold bootOne
  split
  · split
    · simp
    · rfl
  · rfl
theorem total_zero : ∀ (ds : List AD), (∀ d ∈ ds, d.ws = []) → total ds = 0
  | [], _ => rfl
  | d :: r, h => by
    have h1 := total_zero r fun e he => h e (List.mem_cons_of_mem _ he)
    have h2 := h d (List.mem_cons_self ..)
    simp only [total, List.map_cons, List.sum_cons, h2] at h1 ⊢
    simpa using h1
theorem pick_none (ds : List AD) : ∀ k, pick ds k = none → ∀ i, i < k → waitsAt ds i = 0
  | 0, _, i, hi => by omega
  | k + 1, h, i, hi => by
    unfold pick at h
    split at h
    · cases hp : pick ds k with
      | none => rw [hp] at h; cases h
      | some m =>
        rw [hp] at h
        simp only at h
        split at h <;> cases h
    · rename_i hw
      by_cases e : i = k
      · subst e
        omega
      · exact pick_none ds k h i (by omega)
theorem pick_none_ws {ds : List AD} (h : pick ds ds.length = none) : ∀ (i : Nat) (d : AD), ds[i]? = some d → d.ws = [] := by
  intro i d hi
  have := pick_none ds _ h i (List.getElem?_eq_some_iff.1 hi).1
  simp only [waitsAt, hi] at this
  exact List.eq_nil_of_length_eq_zero this
theorem Waits.mid {w : World} {v : Value} {ws : List Wt} (h : Waits w v ws) : ∃ A cap, v = .slice A ws.length cap ∧ ws.length ≤ cap ∧ cap ≤ 9223372036854775807 ∧ (0 < ws.length → ∃ g off, A = some ⟨g, off, none⟩ ∧ w.rangeAt g off (ws.flatMap wtCells) ∧ ∃ cs, Blk w g 117 cs) := by
  obtain ⟨h1, h2⟩ := h
  rcases h2 with ⟨rfl, h2⟩ | ⟨g, cap, cur, rfl, _, h4, h5, h6, h7, h8⟩
  · exact ⟨none, 0, by rw [h2], by omega, by omega, fun h => by omega⟩
  · refine ⟨some ⟨g, 0, none⟩, cap, rfl, h5, by unfold maxLen at h6; omega, fun _ => ⟨g, 0, rfl, fun j u hj => ?_, cur, h4⟩⟩
    rw [Nat.zero_add, cell_of_row w g j cur _ _ h4]
    rw [← h8, List.getElem?_take] at hj
    split at hj
    · simpa using hj
    · cases hj
theorem DiskAt.mid {w : World} {C : Array Value} {i : Nat} {d : AD} {v : DV} {K : Nat} (h : DiskAt w C i d v K) : MidAt w C i d v K := by
  obtain ⟨A, cap, e, h2⟩ := h.ws.mid
  exact { c0 := h.c0, c1 := h.c1, fl := h.fl, ws := ⟨A, cap, by rw [← e]; exact h.c3, h2⟩, wf := h.wf, n0 := h.n0 }
theorem DisksAt.mid {w : World} {db : Nat} {C : Array Value} {ds : List AD} {dv : Nat → DV} {K : Nat} (h : DisksAt w db C ds dv K) : MidsAt w db C ds dv K where
  blk := h.blk
  size := h.size
  at_ i d hi := (h.at_ i d hi).mid
  apart i j hi hj hij e := h.apart i j hi hj hij _ (.inl rfl) (.inl e)
theorem MidAt.keep {w w' : World} {C C' : Array Value} {i : Nat} {d : AD} {v : DV} {K : Nat} {F : Nat → Prop} (h : MidAt w C i d v K) (ht : Turn F w w') (h1 : ¬ F v.fl) (h2 : ∀ g cs, F g → ¬ Blk w g 117 cs) (hC : ∀ j, j < 4 → C'[i * 4 + j]? = C[i * 4 + j]?) : MidAt w' C' i d v K where
  c0 := (hC 0 (by omega)).trans h.c0
  c1 := (hC 1 (by omega)).trans h.c1
  fl := by
    obtain ⟨n1, g1, g2⟩ := h.fl
    exact ⟨n1, g1, g2.turn ht h1⟩
  ws := by
    obtain ⟨A, cap, g1, g2, g3, g4⟩ := h.ws
    refine ⟨A, cap, (hC 3 (by omega)).trans g1, g2, g3, fun hp => ?_⟩
    obtain ⟨g, off, e, hr, cs, hb⟩ := g4 hp
    have hn : ¬ F g := fun hF => h2 g cs hF hb
    exact ⟨g, off, e, fun j u hj => by rw [ht.cell (p := ⟨g, off + j, none⟩) hb.lt hn]; exact hr j u hj, cs, hb.turn ht hn⟩
  wf := h.wf
  n0 := h.n0
theorem boot_step {w : World} {db : Nat} {C : Array Value} {ds : List AD} {dv : Nat → DV} {K : Nat} (h : MidsAt w db C ds dv K) {j : Nat} (hj : j < ds.length) (hw : 0 < waitsAt ds j) (k q : Int) (hq : bits .and .i64 k 3 = q) (hq4 : q = 0 ∨ q = 1 ∨ q = 2 ∨ q = 3) (hK : K < 1099511627776) :
    Calls Tryd.prog 44 #[.pointer (some ⟨db, j * 4, none⟩), .int .i64 k] w fun e w' => e = .returned (.tuple #[]) ∧ (∃ C', MidsAt w' db C' (bootOne q j ds) dv K) ∧ Turn (fun b => b = db ∨ b = (dv j).fl) w w' ∧ total ds = total (bootOne q j ds) + 1 := by
  have hd : ds[j]? = some ds[j] := List.getElem?_eq_getElem hj
  have hA := h.at_ j _ hd
  have hw' : 0 < ds[j].ws.length := by simpa [waitsAt, hd] using hw
  generalize hdd : ds[j] = d at *
  obtain ⟨n1, hn1, hm⟩ := hA.fl
  obtain ⟨A, cap, g1, g2, g3, g4⟩ := hA.ws
  obtain ⟨g, off, rfl, hr, cs, hb⟩ := g4 hw'
  cases hws : d.ws with
  | nil => rw [hws] at hw'; simp at hw'
  | cons x r =>
    have hsz := h.size
    rw [hws] at hr g1 g2 hn1
    have hrx : w.rangeAt g off (wtCells x) := fun m u hm' => hr m u (by
      rw [List.flatMap_cons, List.getElem?_append_left (List.getElem?_eq_some_iff.1 hm').1]
      exact hm')
    refine (boot_walk db (j * 4) (dv j).fl n1 g off (x :: r).length cap d.fl x k q C w h.blk hA.c1 g1 (by omega) hm hrx (hA.wf x (by rw [hws]; exact List.mem_cons_self ..)) (by simp) g2 g3 (by simp at hn1; omega) hq hq4).mono ?_
    rintro e w' ⟨rfl, q1, q2, q3⟩
    have e1 : bootOne q j ds = ds.set j { d with fl := bootFl q x.2.1 x.2.2 d.fl, ws := r } := by simp [bootOne, hd, hws]
    refine ⟨rfl, ⟨C.setIfInBounds (j * 4 + 3) (.slice (some ⟨g, cutOff cap off, none⟩) ((x :: r).length - 1) (cap - 1)), ?_⟩, q3, ?_⟩
    · obtain ⟨s1, s2, s3⟩ := set3 C j (.slice (some ⟨g, cutOff cap off, none⟩) ((x :: r).length - 1) (cap - 1)) (by omega)
      have hFw : ∀ b cs, (b = db ∨ b = (dv j).fl) → ¬ Blk w b 117 cs := by
        rintro b cs (rfl | rfl) hb'
        · exact Blk.ne_ h.blk hb' (by decide) rfl
        · exact hm.ne hb' rfl
      have hng : ¬ (g = db ∨ g = (dv j).fl) := fun e => hFw g cs e hb
      rw [e1]
      refine ⟨q1, by rw [List.length_set, Array.size_setIfInBounds]; exact hsz, fun i di hi => ?_, fun i m hi hm' => by rw [List.length_set] at hi hm'; exact h.apart i m hi hm'⟩
      by_cases e : i = j
      · subst e
        rw [List.getElem?_set, if_pos rfl, if_pos hj] at hi
        cases hi
        refine { c0 := (s3 0 (by omega)).trans hA.c0, c1 := (s3 1 (by omega)).trans hA.c1, fl := ⟨n1 + 1, by simp at hn1 ⊢; omega, q2⟩, ws := ⟨some ⟨g, cutOff cap off, none⟩, cap - 1, s2, by simp at g2 ⊢; omega, by omega, fun hp => ?_⟩, wf := fun y hy => hA.wf y (by rw [hws]; exact List.mem_cons_of_mem _ hy), n0 := hA.n0 }
        have hc1 : cap ≠ 1 := by
          simp at g2 hp
          omega
        refine ⟨g, off + 66, by simp [cutOff, hc1], fun m u hm' => ?_, cs, hb.turn q3 hng⟩
        rw [q3.cell (p := ⟨g, off + 66 + m, none⟩) hb.lt hng]
        have := hr (66 + m) u (by
          rw [List.flatMap_cons, List.getElem?_append_right (by rw [wtCells_length]; omega), wtCells_length, show 66 + m - 66 = m from by omega]
          exact hm')
        rwa [← Nat.add_assoc] at this
      · rw [List.getElem?_set, if_neg (Ne.symm e)] at hi
        have hil := (List.getElem?_eq_some_iff.1 hi).1
        refine (h.at_ i di hi).keep q3 ?_ hFw (fun m hm' => s1 _ (by omega))
        rintro (e' | e')
        · obtain ⟨_, _, hm2⟩ := (h.at_ i di hi).fl
          exact hm2.ne h.blk e'.symm
        · exact h.apart i j hil hj e e'
    · rw [e1]
      exact total_set ds j d _ hd (by rw [hws]; rfl)
end Go.Proofs.YtelipeoilcepbaaDoor
namespace Go.Proofs.YtelipeoilcepbaaDoor
open Go.RowKit Go.Maps
set_option maxRecDepth 20000
set_option linter.unusedVariables false
def low2 (k : Int) : Int := bits .and .i64 k 3
theorem low2_four (k : Int) : low2 k = 0 ∨ low2 k = 1 ∨ low2 k = 2 ∨ low2 k = 3 := by
  have h1 : (BitVec.ofInt 64 k &&& BitVec.ofInt 64 3).toNat ≤ 3 := by
    rw [BitVec.toNat_and]
    exact Nat.and_le_right
  have h2 : low2 k = IntKind.i64.wrap ((BitVec.ofInt 64 k &&& BitVec.ofInt 64 3).toNat : Int) := rfl
  rw [h2, IntKind.wrap_i64]
  omega
def Ks (w : World) (F : Nat → Prop) (a : Option Addr) (len : Nat) (zs : List Int) : Prop :=
  zs.length = len ∧ len ≤ 9223372036854775807 ∧ (0 < len → ∃ g off, a = some ⟨g, off, none⟩ ∧ g < w.heap.size ∧ ¬ F g ∧ ∀ i, i < len → w.cell? ⟨g, off + i, none⟩ = some (.int .i64 (zs.getD i 0)))
def kval (zs : List Int) (i : Nat) : Int := if zs.length = 0 then 0 else zs.getD (i % zs.length) 0
theorem total_le : ∀ (ds : List AD) (K : Nat), (∀ d ∈ ds, d.ws.length ≤ K) → total ds ≤ ds.length * K
  | [], _, _ => Nat.zero_le _
  | d :: r, K, h => by
    have h1 := total_le r K fun e he => h e (List.mem_cons_of_mem _ he)
    have h2 := h d (List.mem_cons_self ..)
    simp only [total, List.map_cons, List.sum_cons, List.length_cons] at h1 ⊢
    rw [Nat.succ_mul]
    omega
def AP.boot (s : AP) (zs : List Int) : AP := { ds := bootRun (fun i => low2 (kval zs i)) (total s.ds) 0 s.ds, on := true, fuse := -1, steps := s.steps }
theorem MidsAt.still {w w' : World} {db : Nat} {C : Array Value} {ds : List AD} {dv : Nat → DV} {K : Nat} (h : MidsAt w db C ds dv K) (ht : Turn nowhere w w') : MidsAt w' db C ds dv K where
  blk := h.blk.turn ht fun e => e
  size := h.size
  at_ i d hi := (h.at_ i d hi).keep ht (fun e => e) (fun _ _ e => e.elim) fun _ _ => rfl
  apart := h.apart
structure FinAt (B : Nat) (w : World) (db : Nat) (C : Array Value) (ds : List AD) (dv : Nat → DV) (K k : Nat) : Prop where
  blk : Blk w db 88 C
  size : ds.length * 4 ≤ C.size
  mid : ∀ i d, ds[i]? = some d → MidAt w C i d (dv i) K
  fin : ∀ i d, i < k → ds[i]? = some d → DiskAt w C i d (dv i) K ∧ (dv i).wv = .slice none 0 0 ∧ B ≤ (dv i).nw
  flB : ∀ i, i < ds.length → (dv i).fl < B
  apart : ∀ i j, i < ds.length → j < ds.length → i ≠ j → (dv i).fl ≠ (dv j).fl
  nws : ∀ i j, i < k → j < k → i ≠ j → (dv i).nw ≠ (dv j).nw
  kn : k ≤ ds.length
theorem forget_step {B : Nat} {w : World} {db : Nat} {C : Array Value} {ds : List AD} {dv : Nat → DV} {K k : Nat} (h : FinAt B w db C ds dv K k) (hk : k < ds.length) (hws : ∀ (i : Nat) (d : AD), ds[i]? = some d → d.ws = []) (hB : B ≤ w.heap.size) :
    Calls Tryd.prog 45 #[.pointer (some ⟨db, k * 4, none⟩)] w fun e w' => e = .returned (.tuple #[]) ∧ (∃ C' dv', FinAt B w' db C' ds dv' K (k + 1) ∧ ∀ i, (dv' i).fl = (dv i).fl) ∧ Turn (only db) w w' := by
  have hsz := h.size
  refine (forget_walk db (k * 4) C w h.blk (by omega)).mono ?_
  rintro e w' ⟨rfl, q1, q2, q3⟩
  refine ⟨rfl, ⟨(C.setIfInBounds (k * 4 + 2) (.map (some w.heap.size))).setIfInBounds (k * 4 + 3) (.slice none 0 0), setV dv k { fl := (dv k).fl, nw := w.heap.size, wv := .slice none 0 0 }, ?_, fun i => ?_⟩, q3⟩
  · obtain ⟨s1, s2, s4, s3⟩ := set23 C k (.map (some w.heap.size)) (.slice none 0 0) (by omega)
    have hsame : ∀ i, i ≠ k → setV dv k { fl := (dv k).fl, nw := w.heap.size, wv := .slice none 0 0 } i = dv i := fun i hi => by simp [setV, hi]
    have hself : setV dv k { fl := (dv k).fl, nw := w.heap.size, wv := .slice none 0 0 } k = { fl := (dv k).fl, nw := w.heap.size, wv := .slice none 0 0 } := by simp [setV]
    have hfl : ∀ i, (setV dv k { fl := (dv k).fl, nw := w.heap.size, wv := .slice none 0 0 } i).fl = (dv i).fl := fun i => by
      by_cases e : i = k
      · subst e
        rw [hself]
      · rw [hsame i e]
    have hd := h.mid k ds[k] (List.getElem?_eq_getElem hk)
    obtain ⟨n1, hn1, hm⟩ := hd.fl
    have hm' : MapAt w' kI eS (dv k).fl n1 ds[k].fl := hm.turn q3 (fun e => hm.ne h.blk e.symm)
    have hwk := hws k ds[k] (List.getElem?_eq_getElem hk)
    have hDk : DiskAt w' ((C.setIfInBounds (k * 4 + 2) (.map (some w.heap.size))).setIfInBounds (k * 4 + 3) (.slice none 0 0)) k ds[k] { fl := (dv k).fl, nw := w.heap.size, wv := .slice none 0 0 } K := {
      c0 := (s3 0 (by omega)).trans hd.c0
      c1 := (s3 1 (by omega)).trans hd.c1
      c2 := s4
      c3 := s2
      ne := by
        have := hm.lt
        show (dv k).fl ≠ w.heap.size
        omega
      fl := ⟨n1, hn1, hm'⟩
      nw := by rw [hwk]; exact q2
      ws := by rw [hwk]; exact World.ownsRow_nil w' 0 _ _
      wf := hd.wf
      n0 := hd.n0 }
    have hmid : ∀ i d, ds[i]? = some d → i ≠ k → MidAt w' ((C.setIfInBounds (k * 4 + 2) (.map (some w.heap.size))).setIfInBounds (k * 4 + 3) (.slice none 0 0)) i d (dv i) K := fun i d hi hik => by
      refine (h.mid i d hi).keep q3 ?_ (fun g cs hg hb => Blk.ne_ h.blk hb (by decide) hg.symm) (fun m hm => s1 _ (by omega))
      obtain ⟨_, _, hm2⟩ := (h.mid i d hi).fl
      exact fun e => hm2.ne h.blk e.symm
    refine { blk := q1, size := by simp; exact hsz, mid := fun i d hi => ?_, fin := fun i d hik hi => ?_, flB := fun i hi => by rw [hfl]; exact h.flB i hi, apart := fun i j hi hj hij => by rw [hfl, hfl]; exact h.apart i j hi hj hij, nws := fun i j hi hj hij => ?_, kn := hk }
    · by_cases e : i = k
      · subst e
        rw [List.getElem?_eq_getElem hk] at hi
        cases hi
        rw [hself]
        exact hDk.mid
      · rw [hsame i e]
        exact hmid i d hi e
    · by_cases e : i = k
      · subst e
        rw [List.getElem?_eq_getElem hk] at hi
        cases hi
        rw [hself]
        exact ⟨hDk, rfl, hB⟩
      · rw [hsame i e]
        obtain ⟨g1, g2, g3⟩ := h.fin i d (by omega) hi
        refine ⟨g1.keep (fun b hb => q3.block b ?_ ?_) (fun m hm => s1 _ (by omega)) (Nat.le_refl _), g2, g3⟩
        · rcases hb with rfl | rfl | hb
          · obtain ⟨_, _, hm2⟩ := g1.fl
            exact hm2.lt
          · exact g1.nw.lt
          · exact (g1.ws.lt b hb).2
        · rcases hb with rfl | rfl | hb
          · obtain ⟨_, _, hm2⟩ := g1.fl
            exact fun e' => hm2.ne h.blk e'.symm
          · exact fun e' => g1.nw.ne h.blk e'.symm
          · exact fun e' => g1.ws.ne_blk h.blk (by decide) (by rw [hb, show b = db from e'])
    · by_cases e : i = k
      · subst e
        rw [hself, hsame j (Ne.symm hij)]
        have hj' : j < ds.length := by omega
        have := ((h.fin j _ (by omega) (List.getElem?_eq_getElem hj')).1).nw.lt
        show w.heap.size ≠ (dv j).nw
        omega
      · rw [hsame i e]
        by_cases e2 : j = k
        · subst e2
          rw [hself]
          have hi' : i < ds.length := by omega
          have := ((h.fin i _ (by omega) (List.getElem?_eq_getElem hi')).1).nw.lt
          show (dv i).nw ≠ w.heap.size
          omega
        · rw [hsame j e2]
          exact h.nws i j (by omega) (by omega) hij
  · by_cases e : i = k
    · subst e
      simp [setV]
    · simp [setV, e]
theorem FinAt.done {B : Nat} {w : World} {db : Nat} {C : Array Value} {ds : List AD} {dv : Nat → DV} {K : Nat} (h : FinAt B w db C ds dv K ds.length) : DisksAt w db C ds dv K where
  blk := h.blk
  size := h.size
  at_ i d hi := (h.fin i d (List.getElem?_eq_some_iff.1 hi).1 hi).1
  apart i j hi hj hij b hb1 hb2 := by
    obtain ⟨_, n1, m1⟩ := h.fin i _ hi (List.getElem?_eq_getElem hi)
    obtain ⟨_, n2, m2⟩ := h.fin j _ hj (List.getElem?_eq_getElem hj)
    have f1 := h.flB i hi
    have f2 := h.flB j hj
    rcases hb1 with rfl | rfl | hb1
    · rcases hb2 with e | e | e
      · exact h.apart i j hi hj hij e
      · omega
      · rw [n2] at e
        cases e
    · rcases hb2 with e | e | e
      · omega
      · exact h.nws i j hi hj hij e
      · rw [n2] at e
        cases e
    · rw [n1] at hb1
      cases hb1
set_option maxHeartbeats 2000000 in
theorem boot_ok {w : World} {p : Nat} {F : Nat → Prop} {s : AP} {K : Nat} (h : PlantAt w p F s K) (a : Option Addr) (len cap : Nat) (zs : List Int) (hz : Ks w F a len zs) (hK : K < 1099511627776) :
    Calls Tryd.prog 22 #[.pointer (some ⟨p, 0, none⟩), .slice a len cap] w fun e w' => e = .returned (.tuple #[]) ∧ Goes2 w p F w' (s.boot zs) K := by
  obtain ⟨db, cp, C, dv, h1, hD, hF, g1, g2, g3, g4, g5, g6⟩ := id h
  have hdp : db ≠ p := Blk.ne_ hD.blk h1 (by decide)
  have c1 : w.cell? ⟨p, 1, none⟩ = some (.bool s.on) := h1.cell 1
  have c2 : w.cell? ⟨p, 2, none⟩ = some (.int .i64 s.fuse) := h1.cell 2
  have f1 := h1.frozen 1
  have f2 := h1.frozen 2
  have H := Lib.hid h
  have HD := Lib.hid hD
  have H1 := Lib.hid h1
  have HF := Lib.hid hF
  have HZ := Lib.hid hz
  clear h hD h1 hF hz
  go_enter Tryd.func22, Tryd.ntmps22
  go_wp2_with fail
  have hb1 : Blk _ p 82 (plantCells db s.ds.length cp true (-1) s.steps) := (H1.out.set_ 1 (.bool true)).set_ 2 (.int .i64 (-1))
  have ht1 : Turn (only p) w _ := ((Turn.refl _ w).at_ 1 (.bool true)).at_ 2 (.int .i64 (-1))
  generalize ((w.setCell ⟨p, 1, none⟩ (.bool true)).setCell ⟨p, 2, none⟩ (.int .i64 (-1))) = w1 at *
  have hD1 : MidsAt w1 db C s.ds dv K := (HD.out.keep (ht1.block _ HD.out.blk.lt hdp) (fun j hj b hb => ht1.block _ (HD.out.lt hj hb) fun e => HD.out.ne hj hb H1.out (by decide) e.symm) (Nat.le_refl _)).mid
  have hTF : Turn F w w1 := ht1.mono fun k _ e => by
    rw [HF.out]
    exact .inl e
  clear c1 c2 f1 f2 ht1
  refine (longest_walk p db cp true (-1) s.steps s.ds C dv K w1 hb1 hD1 g2).mono ?_
  rintro e w2 ⟨rfl, m, rfl⟩
  have htot : total s.ds ≤ 4 * K := by
    refine Nat.le_trans (total_le s.ds K fun d hd => ?_) (Nat.mul_le_mul_right _ g2)
    obtain ⟨i, hi, rfl⟩ := List.mem_iff_getElem.1 hd
    obtain ⟨n1, hn, _⟩ := (HD.out.at_ i _ (List.getElem?_eq_getElem hi)).fl
    omega
  have hTm : Turn F w (w1.drewN m) := hTF.drewN m
  have hbm : Blk (w1.drewN m) p 82 (plantCells db s.ds.length cp true (-1) s.steps) := hb1
  have hDm : MidsAt (w1.drewN m) db C s.ds dv K := hD1.still ((Turn.refl _ _).drewN m)
  generalize w1.drewN m = w2 at *
  clear hb1 hD1 hTF
  go_wp2_with fail
  go_loopg [4, 5] (total s.ds) (fun gk i d wr => ∃ (ds' : List AD) (C' : Array Value) (j : Nat), ds'.length = s.ds.length ∧ MidsAt wr db C' ds' dv K ∧ Blk wr p 82 (plantCells db s.ds.length cp true (-1) s.steps) ∧ Turn F w wr ∧
    i = .int .i64 (j : Int) ∧ d = ptrOf db (pick ds' ds'.length) ∧ total ds' = gk ∧ j + gk = total s.ds ∧ Hid (bootRun (fun i => low2 (kval zs i)) gk j ds' = bootRun (fun i => low2 (kval zs i)) (total s.ds) 0 s.ds))
  case atStart => exact ⟨s.ds, C, 0, rfl, hDm, hbm, hTm, rfl, rfl, rfl, by omega, Lib.hid rfl⟩
  case round =>
    obtain ⟨ds', C', j, hlen, hM, hP, hT, rfl, rfl, hgk, hjk, hrun⟩ := hrel
    clear hDm hbm hTm
    have hj1 : (j : Int) < 4398046511104 := by omega
    have hj0 : (0 : Int) ≤ (j : Int) := by omega
    cases hp : pick ds' ds'.length with
    | some jj =>
      obtain ⟨hjj, hwj⟩ := pick_some ds' _ jj hp
      have hnil : ptrOf db (some jj) = .pointer (some ⟨db, jj * 4, Option.none⟩) := rfl
      rw [hnil]
      clear hnil
      have HP := Lib.hid hp
      have HM := Lib.hid hM
      have HB := Lib.hid hP
      have HT := Lib.hid hT
      have HL := Lib.hid hlen
      clear hp hM hP hT hlen
      obtain ⟨hzl, hzm, hzc⟩ := HZ.out
      by_cases hl : 0 < len
      · obtain ⟨g, off, rfl, hgl, hgF, hgc⟩ := hzc hl
        have hmod : j % len < len := Nat.mod_lt _ hl
        have hcell : wr.cell? ⟨g, off + j % len, none⟩ = some (.int .i64 (zs.getD (j % len) 0)) := by
          rw [HT.out.cell (p := ⟨g, off + j % len, none⟩) hgl hgF]
          exact hgc _ hmod
        have hkv : kval zs j = zs.getD (j % len) 0 := by
          unfold kval
          rw [if_neg (by omega), hzl]
        generalize zs.getD (j % len) 0 = kv at *
        have z1 : (0 : Int) < (len : Int) := by omega
        have z2 : (0 : Int) ≤ ((j % len : Nat) : Int) := by omega
        have z3 : ((j % len : Nat) : Int) < (len : Int) := by omega
        have HK := Lib.hid hkv
        have HZL := Lib.hid hzl
        clear hkv hzc hgc hmod hzl
        go_wp2_with fail
        refine (boot_step HM.out hjj hwj kv (low2 kv) rfl (low2_four kv) hK).mono ?_
        rintro e w3 ⟨rfl, ⟨C3, hM3⟩, ht3, htot3⟩
        have hfl : (dv jj).fl < w.heap.size ∧ F (dv jj).fl ∧ (dv jj).fl ≠ p := by
          have hj3 : jj < s.ds.length := by rw [← HL.out]; exact hjj
          refine ⟨HD.out.lt hj3 (.inl rfl), ?_, ?_⟩
          · rw [HF.out]
            exact .inr (.inr ⟨jj, hj3, .inl rfl⟩)
          · exact fun e => HD.out.ne hj3 (.inl rfl) H1.out (by decide) e.symm
        have hP3 : Blk w3 p 82 (plantCells db s.ds.length cp true (-1) s.steps) := HB.out.turn ht3 (by
          rintro (e | e)
          · exact hdp e.symm
          · exact hfl.2.2 e.symm)
        have hT3 : Turn F w w3 := HT.out.trans ht3 fun k _ e => by
          rcases e with rfl | rfl
          · rw [HF.out]
            exact .inr (.inl rfl)
          · exact hfl.2.1
        have hl3 : (bootOne (low2 kv) jj ds').length = s.ds.length := by rw [bootOne_length]; exact HL.out
        have hru : bootRun (fun i => low2 (kval zs i)) (total (bootOne (low2 kv) jj ds')) (j + 1) (bootOne (low2 kv) jj ds') = bootRun (fun i => low2 (kval zs i)) (total s.ds) 0 s.ds := by
          rw [← hrun.out, ← hgk, htot3, bootRun, HP.out]
          simp only [HK.out]
        have HRU := Lib.hid hru
        have htt : total (bootOne (low2 kv) jj ds') + 1 = gk := by omega
        generalize bootOne (low2 kv) jj ds' = d3 at *
        have HTT := Lib.hid htt
        have HL3 := Lib.hid hl3
        have HM3 := Lib.hid hM3
        have HP3 := Lib.hid hP3
        have HT3 := Lib.hid hT3
        clear hru htt hl3 hM3 hP3 hT3 ht3 htot3 hrun
        have zj : (0 : Int) ≤ (j : Int) + 1 := by omega
        go_wp2_with fail
        refine (longest_walk p db cp true (-1) s.steps d3 C3 dv K w3 (by rw [HL3.out]; exact HP3.out) HM3.out (by rw [HL3.out]; exact g2)).mono ?_
        rintro e w4 ⟨rfl, m4, rfl⟩
        go_wp2
        go_roundg (total d3)
        case measure => have := HTT.out; omega
        case rel => exact ⟨d3, C3, j + 1, HL3.out, HM3.out.still ((Turn.refl _ _).drewN m4), HP3.out, HT3.out.drewN m4, by go_num, rfl, rfl, by have := HTT.out; omega, HRU⟩
      · have hl0 : len = 0 := by omega
        subst hl0
        obtain ⟨kv, hkv0⟩ : ∃ kv : Int, kv = 0 := ⟨0, rfl⟩
        have hkv : kval zs j = kv := by
          unfold kval
          rw [if_pos hzl, hkv0]
        have HK := Lib.hid hkv
        clear hkv hzl hzc hl
        go_wp2_with fail
        rw [← hkv0]
        have HK0 := Lib.hid hkv0
        clear hkv0
        refine (boot_step HM.out hjj hwj kv (low2 kv) rfl (low2_four kv) hK).mono ?_
        rintro e w3 ⟨rfl, ⟨C3, hM3⟩, ht3, htot3⟩
        have hfl : (dv jj).fl < w.heap.size ∧ F (dv jj).fl ∧ (dv jj).fl ≠ p := by
          have hj3 : jj < s.ds.length := by rw [← HL.out]; exact hjj
          refine ⟨HD.out.lt hj3 (.inl rfl), ?_, ?_⟩
          · rw [HF.out]
            exact .inr (.inr ⟨jj, hj3, .inl rfl⟩)
          · exact fun e => HD.out.ne hj3 (.inl rfl) H1.out (by decide) e.symm
        have hP3 : Blk w3 p 82 (plantCells db s.ds.length cp true (-1) s.steps) := HB.out.turn ht3 (by
          rintro (e | e)
          · exact hdp e.symm
          · exact hfl.2.2 e.symm)
        have hT3 : Turn F w w3 := HT.out.trans ht3 fun k _ e => by
          rcases e with rfl | rfl
          · rw [HF.out]
            exact .inr (.inl rfl)
          · exact hfl.2.1
        have hl3 : (bootOne (low2 kv) jj ds').length = s.ds.length := by rw [bootOne_length]; exact HL.out
        have hru : bootRun (fun i => low2 (kval zs i)) (total (bootOne (low2 kv) jj ds')) (j + 1) (bootOne (low2 kv) jj ds') = bootRun (fun i => low2 (kval zs i)) (total s.ds) 0 s.ds := by
          rw [← hrun.out, ← hgk, htot3, bootRun, HP.out]
          simp only [HK.out]
        have HRU := Lib.hid hru
        have htt : total (bootOne (low2 kv) jj ds') + 1 = gk := by omega
        generalize bootOne (low2 kv) jj ds' = d3 at *
        have HTT := Lib.hid htt
        have HL3 := Lib.hid hl3
        have HM3 := Lib.hid hM3
        have HP3 := Lib.hid hP3
        have HT3 := Lib.hid hT3
        clear hru htt hl3 hM3 hP3 hT3 ht3 htot3 hrun
        have zj : (0 : Int) ≤ (j : Int) + 1 := by omega
        go_wp2_with fail
        refine (longest_walk p db cp true (-1) s.steps d3 C3 dv K w3 (by rw [HL3.out]; exact HP3.out) HM3.out (by rw [HL3.out]; exact g2)).mono ?_
        rintro e w4 ⟨rfl, m4, rfl⟩
        go_wp2
        go_roundg (total d3)
        case measure => have := HTT.out; omega
        case rel => exact ⟨d3, C3, j + 1, HL3.out, HM3.out.still ((Turn.refl _ _).drewN m4), HP3.out, HT3.out.drewN m4, by go_num, rfl, rfl, by have := HTT.out; omega, HRU⟩
    | none =>
      have hws := pick_none_ws hp
      have ht0 : total ds' = 0 := total_zero ds' fun d hd => by
        obtain ⟨i, hi, rfl⟩ := List.mem_iff_getElem.1 hd
        exact hws i _ (List.getElem?_eq_getElem hi)
      have hfin : bootRun (fun i => low2 (kval zs i)) (total s.ds) 0 s.ds = ds' := by
        rw [← hrun.out, ← hgk, ht0, bootRun]
      have hF0 : FinAt w.heap.size wr db C' ds' dv K 0 := { blk := hM.blk, size := hM.size, mid := hM.at_, fin := fun i d hi => (by omega), flB := fun i hi => HD.out.lt (by omega) (.inl rfl), apart := hM.apart, nws := fun i j hi => (by omega), kn := Nat.zero_le _ }
      have hnil : ptrOf db (Option.none : Option Nat) = .pointer none := rfl
      rw [hnil]
      clear hnil hp hrun hM ht0 hgk hjk
      have HW := Lib.hid hws
      have HFI := Lib.hid hfin
      have HT := Lib.hid hT
      have HP := Lib.hid hP
      have HL := Lib.hid hlen
      have c0 : wr.cell? ⟨p, 0, none⟩ = some (.slice (some ⟨db, 0, none⟩) s.ds.length cp) := hP.cell 0
      have HF0 := Lib.hid hF0
      clear hws hfin hT hP hF0 hlen
      generalize hnn : s.ds.length = n at *
      have HN := Lib.hid hnn
      clear hnn
      go_wp2_with fail
      go_loopg [40] n (fun gk i wq => ∃ (k : Nat) (Ck : Array Value) (dk : Nat → DV), k + gk = n ∧ i = .int .i64 (k : Int) ∧ FinAt w.heap.size wq db Ck ds' dk K k ∧ (∀ i, (dk i).fl = (dv i).fl) ∧ Blk wq p 82 (plantCells db n cp true (-1) s.steps) ∧ Turn F w wq)
      case atStart => exact ⟨0, C', dv, by omega, rfl, HF0.out, fun _ => rfl, HP.out, HT.out⟩
      case round =>
        obtain ⟨k, Ck, dk, hkn, rfl, hFk, hfl, hPk, hTk⟩ := hrel
        have HFk := Lib.hid hFk
        have Hfl := Lib.hid hfl
        have HPk := Lib.hid hPk
        have HTk := Lib.hid hTk
        have cc := hPk.cell 0
        have c0' : wr.cell? ⟨p, 0, none⟩ = some (.slice (some ⟨db, 0, none⟩) n cp) := cc
        clear hFk hfl hPk hTk c0 cc
        by_cases hlt : k < n
        · have z1 : (0 : Int) ≤ (k : Int) := by omega
          have z2 : (k : Int) < (n : Int) := by omega
          go_wp2_with fail
          refine (forget_step HFk.out (by rw [HL.out]; exact hlt) HW.out HTk.out.size).mono ?_
          rintro e w5 ⟨rfl, ⟨C5, d5, hF5, hfl5⟩, hT5⟩
          have hP5 : Blk w5 p 82 (plantCells db n cp true (-1) s.steps) := HPk.out.turn hT5 (fun e => hdp (e : p = db).symm)
          have hT5' : Turn F w w5 := HTk.out.trans hT5 fun b _ e => by
            rw [HF.out]
            exact .inr (.inl e)
          have HF5 := Lib.hid hF5
          have Hfl5 : Hid (∀ i, (d5 i).fl = (dv i).fl) := Lib.hid fun i => (hfl5 i).trans (Hfl.out i)
          have HP5 := Lib.hid hP5
          have HT5 := Lib.hid hT5'
          clear hF5 hfl5 hP5 hT5 hT5'
          go_wp2
          go_roundg (gk - 1)
          case measure => omega
          case rel => exact ⟨k + 1, C5, d5, by omega, by go_num, HF5.out, Hfl5.out, HP5.out, HT5.out⟩
        · obtain rfl : k = n := by omega
          have hG : Goes2 w p F wr (s.boot zs) K := by
            have hds : (s.boot zs).ds = ds' := HFI.out
            have hle : (s.boot zs).ds.length = k := by rw [hds]; exact HL.out
            have hFd := HFk.out
            rw [← HL.out] at hFd
            refine ⟨PlF p db k dk, ⟨db, cp, Ck, dk, ?_, ?_, ?_, ?_, ?_, ?_, ?_, ?_, ?_⟩, HTk.out, ?_⟩
            · rw [hle]
              exact HPk.out
            · rw [hds]
              exact hFd.done
            · rw [hle]
            · rw [hle]
              exact g1
            · rw [hle]
              exact g2
            · simp only [AP.boot]; omega
            · simp only [AP.boot]; omega
            · exact g5
            · exact g6
            · rintro b (rfl | rfl | ⟨i, hi, hb⟩)
              · left
                rw [HF.out]
                exact .inl rfl
              · left
                rw [HF.out]
                exact .inr (.inl rfl)
              · have hi' : i < ds'.length := by rw [HL.out]; exact hi
                obtain ⟨_, e1, e2⟩ := hFd.fin i _ hi' (List.getElem?_eq_getElem hi')
                rcases hb with rfl | rfl | hb
                · left
                  rw [HF.out, Hfl.out i]
                  exact .inr (.inr ⟨i, hi, .inl rfl⟩)
                · exact .inr e2
                · rw [e1] at hb
                  cases hb
          have HG := Lib.hid hG
          clear hG
          go_wp2
          go_end0
          exact ⟨rfl, HG.out⟩
end Go.Proofs.YtelipeoilcepbaaDoor
