/-
  plant's Flush, Fuse, On, Steps, Len, from a plant in memory to one
-/
import Derived.Test.YtgdlidjjogoiaaaPlS
namespace Go.Proofs.Ytgdlidjjogoiaaa
open Go.RowKit Go.Maps
set_option linter.unusedVariables false
section
variable {w w' : World} {p db : Nat} {C C' : Array Value} {ds : List AD} {dv : Nat → DV} {K K' : Nat} {F : Nat → Prop} {s : AP}
def AP.flushed (s : AP) (i : Nat) (d : AD) : AP := { s with fuse := burnt s.fuse, steps := s.steps + 1, ds := s.ds.set i { d with fl := over (lastW d.ws) d.fl, ws := [] } }
theorem refuse_bad (h : PlantAt w p F s K) (dev k : Int) (hk : refuseCode s.on s.ds.length dev = k) :
    Calls Try.prog 34 #[.pointer (some ⟨p, 0, none⟩), .int .i64 dev] w fun e w' => e = .returned (.int .i64 k) ∧ w = w' := by
  obtain ⟨db, cap, C, dv, h1, hD, _⟩ := h
  rw [← hk]
  exact refuse_any p db _ cap _ _ _ dev w h1
theorem flush_bad (h : PlantAt w p F s K) (dev k : Int) (hk : refuseCode s.on s.ds.length dev = k) (h2 : k = 2 ∨ k = 31) :
    Calls Try.prog 16 #[.pointer (some ⟨p, 0, none⟩), .int .i64 dev] w fun e w' => e = .returned (.int .i64 k) ∧ w = w' := by
  have hq := refuse_bad h dev k hk
  have Hq := Lib.hid hq
  clear hq hk
  rcases h2 with rfl | rfl
  all_goals
    go_enter Try.func16, Try.ntmps16
    go_wp2_with (go_at_call 34; refine Hq.out.mono ?_; rintro e w' ⟨rfl, rfl⟩)
    go_ret
    exact ⟨rfl, rfl⟩
theorem refuse_ok (h : PlantAt w p F s K) (i : Nat) (d : AD) (hd : s.ds[i]? = some d) (hon : s.on = true) :
    Calls Try.prog 34 #[.pointer (some ⟨p, 0, none⟩), .int .i64 (i : Int)] w fun e w' => e = .returned (.int .i64 0) ∧ w = w' :=
  refuse_bad h i 0 (by
    have := (List.getElem?_eq_some_iff.1 hd).1
    simp [refuseCode, hon, this])
theorem flush_burn (h : PlantAt w p F s K) (i : Nat) (d : AD) (hd : s.ds[i]? = some d) (hon : s.on = true) (h0 : s.fuse = 0) :
    Calls Try.prog 16 #[.pointer (some ⟨p, 0, none⟩), .int .i64 (i : Int)] w fun e w' => e = .returned (.int .i64 2) ∧ Goes2 w p F w' s.burn K := by
  have hq := refuse_ok h i d hd hon
  have hst := step_burnP h h0
  have Hq := Lib.hid hq
  have Hs := Lib.hid hst
  clear hq hd hon hst h0
  go_enter Try.func16, Try.ntmps16
  go_wp2_with (first
    | (go_at_call 34; refine Hq.out.mono ?_; rintro e w' ⟨rfl, rfl⟩)
    | (go_at_call 30; refine Hs.out.mono ?_; rintro e w1 ⟨rfl, hg⟩; have Hg := Lib.hid hg; clear hg))
  go_ret
  exact ⟨rfl, Hg.out⟩
theorem set23 (C : Array Value) (i : Nat) (u v : Value) (h : i * 4 + 4 ≤ C.size) : (∀ j, j < i * 4 ∨ i * 4 + 4 ≤ j → ((C.setIfInBounds (i * 4 + 2) u).setIfInBounds (i * 4 + 3) v)[j]? = C[j]?) ∧ ((C.setIfInBounds (i * 4 + 2) u).setIfInBounds (i * 4 + 3) v)[i * 4 + 3]? = some v ∧
    ((C.setIfInBounds (i * 4 + 2) u).setIfInBounds (i * 4 + 3) v)[i * 4 + 2]? = some u ∧ (∀ j, j < 2 → ((C.setIfInBounds (i * 4 + 2) u).setIfInBounds (i * 4 + 3) v)[i * 4 + j]? = C[i * 4 + j]?) := by
  refine ⟨fun j hj => ?_, ?_, ?_, fun j hj => ?_⟩
  · rw [Array.getElem?_setIfInBounds, if_neg (by omega), Array.getElem?_setIfInBounds, if_neg (by omega)]
  · rw [Array.getElem?_setIfInBounds, if_pos rfl, if_pos (by simp; omega)]
  · rw [Array.getElem?_setIfInBounds, if_neg (by omega), Array.getElem?_setIfInBounds, if_pos rfl, if_pos (by omega)]
  · rw [Array.getElem?_setIfInBounds, if_neg (by omega), Array.getElem?_setIfInBounds, if_neg (by omega)]
set_option maxHeartbeats 1000000 in
theorem flush_ok (h : PlantAt w p F s K) (i : Nat) (d : AD) (hd : s.ds[i]? = some d) (hon : s.on = true) (h0 : s.fuse ≠ 0) (hK : K < 1099511627775) :
    Calls Try.prog 16 #[.pointer (some ⟨p, 0, none⟩), .int .i64 (i : Int)] w fun e w' => e = .returned (.int .i64 0) ∧ Goes2 w p F w' (s.flushed i d) (K + 1) := by
  have hq := refuse_ok h i d hd hon
  obtain ⟨db, cp, C, dv, h1, hD, hF, g1, g2, g3, g4, g5, g6⟩ := id h
  have hi := (List.getElem?_eq_some_iff.1 hd).1
  have hA := hD.at_ i d hd
  have hst := step_on p db s.ds.length cp s.on s.fuse s.steps w h1 h0 g3 g4 g5 (by omega)
  have z1 : (0 : Int) ≤ (i : Int) := by omega
  have z2 : (i : Int) < (s.ds.length : Int) := by omega
  have Hq := Lib.hid hq
  have Hs := Lib.hid hst
  have HD := Lib.hid hD
  have H1 := Lib.hid h1
  have HA := Lib.hid hA
  have Hn := Lib.hid hF
  clear hq hd hst h0 hA hD h h1 hF
  generalize hnn : s.ds.length = n at *
  have HN := Lib.hid hnn
  clear hnn
  go_enter Try.func16, Try.ntmps16
  go_wp2_with (first
    | (go_at_call 34; refine Hq.out.mono ?_; rintro e w' ⟨rfl, rfl⟩)
    | (go_at_call 30; refine Hs.out.mono ?_; rintro e w1 ⟨rfl, hb1, ht1⟩; have HT := Lib.hid ht1; clear ht1; have c0 : w1.cell? ⟨p, 0, none⟩ = some (.slice (some ⟨db, 0, none⟩) n cp) := hb1.cell 0))
  obtain ⟨n1, hn1a, hn1b⟩ := HA.out.fl
  have hi : i < s.ds.length := by rw [HN.out]; exact hi
  have hTd : Turn (only p) w w1 := HT.out
  have hdb : ¬ only p db := Blk.ne_ HD.out.blk H1.out (by decide)
  have hnp : ∀ b, (dv i).has b → ¬ only p b := fun b hb e => HD.out.ne hi hb H1.out (by decide) e.symm
  have hsz := HD.out.size
  rw [HN.out] at hsz
  refine (flush_walk db (i * 4) (dv i).fl (dv i).nw n1 d.ws.length d.fl (lastW d.ws) C w1 (HD.out.blk.turn hTd hdb) HA.out.c1 HA.out.c2 (by omega) (hn1b.turn hTd (hnp _ (.inl rfl))) (HA.out.nw.turn hTd (hnp _ (.inr (.inl rfl)))) HA.out.ne (by omega)).mono ?_
  rintro e w2 ⟨rfl, nw', hnw, q1, q2, q3, q5⟩
  obtain ⟨s1, s2, s4, s3⟩ := set23 C i (.map (some nw')) (.slice none 0 0) (by omega)
  have hA := HA.out
  have hne : (dv i).fl ≠ nw' := by
    have := (hn1b.turn hTd (hnp _ (.inl rfl))).lt
    omega
  have hDA : DiskAt w2 ((C.setIfInBounds (i * 4 + 2) (.map (some nw'))).setIfInBounds (i * 4 + 3) (.slice none 0 0)) i { d with fl := over (lastW d.ws) d.fl, ws := [] } { fl := (dv i).fl, nw := nw', wv := .slice none 0 0 } (K + 1) := {
    c0 := (s3 0 (by omega)).trans hA.c0
    c1 := (s3 1 (by omega)).trans hA.c1
    c2 := s4
    c3 := s2
    ne := hne
    fl := ⟨n1 + d.ws.length, by simp; omega, q2⟩
    nw := q3
    ws := World.ownsRow_nil w2 0 _ _
    wf := fun x hx => by cases hx
    n0 := hA.n0 }
  have hTw : Turn (fun k => k = db ∨ (dv i).has k) w1 w2 := q5.mono fun k _ e => by
    rcases e with e | e
    · exact .inl e
    · exact .inr (.inl e)
  have hD1 : DisksAt w1 db C s.ds dv K := HD.out.keep (hTd.block _ HD.out.blk.lt hdb) (fun j hj b hb => hTd.block _ (HD.out.lt hj hb) fun e => HD.out.ne hj hb H1.out (by decide) e.symm) (Nat.le_refl _)
  have hv : ∀ b, ({ fl := (dv i).fl, nw := nw', wv := .slice none 0 0 } : DV).has b → (dv i).has b ∨ w1.heap.size ≤ b := by
    rintro k (e | e | e)
    · exact .inl (.inl e)
    · exact .inr (e ▸ hnw)
    · cases e
  have hD2 := hD1.upd hi q1 (by simp) s1 hDA (by omega) hTw hv
  have hb2 : Blk w2 p 58 (plantCells db n cp s.on (burnt s.fuse) (s.steps + 1)) := hb1.turn hTw (by
    rintro (e | e)
    · exact hdb e.symm
    · exact hnp p e rfl)
  have hsz1 := hTd.size
  have hG : Goes2 w p F w2 (s.flushed i d) (K + 1) := by
    refine ⟨PlF p db n (setV dv i { fl := (dv i).fl, nw := nw', wv := .slice none 0 0 }), ⟨db, cp, _, _, ?_, hD2, ?_, ?_, ?_, ?_, ?_, ?_, ?_⟩, ?_, ?_⟩
    · simpa [AP.flushed, HN.out] using hb2
    · simp [AP.flushed, HN.out]
    · simpa [AP.flushed, HN.out] using g1
    · simpa [AP.flushed, HN.out] using g2
    · simp only [AP.flushed, burnt]; split <;> omega
    · simp only [AP.flushed, burnt]; split <;> omega
    · simp only [AP.flushed]; omega
    · simp only [AP.flushed]; omega
    · refine (hTd.mono fun k _ e => ?_).trans hTw fun k _ e => ?_
      · rw [Hn.out]
        exact .inl e
      · rw [Hn.out]
        rcases e with e | e
        · exact .inr (.inl e)
        · exact .inr (.inr ⟨i, by rw [← HN.out]; exact hi, e⟩)
    · intro k hk
      rw [Hn.out]
      rcases plf_upd (by rw [← HN.out]; exact hi) hv k hk with e | e
      · exact .inl e
      · exact .inr (by omega)
  have HG := Lib.hid hG
  clear hG hD2 hD1 hb2 hDA q1 q2 q3 q5 hTw hv s1 s2 s3 s4 hA
  go_wp2
  go_ret
  exact ⟨rfl, HG.out⟩
theorem fuseP (h : PlantAt w p F s K) (m : Int) (hm : -9223372036854775808 ≤ m ∧ m ≤ 9223372036854775807) :
    Calls Try.prog 19 #[.pointer (some ⟨p, 0, none⟩), .int .i64 m] w fun e w' => e = .returned (.tuple #[]) ∧ Goes2 w p F w' { s with fuse := if s.on then m else s.fuse } K := by
  obtain ⟨db, cp, C, dv, h1, hD, hF, g1, g2, g3, g4, g5, g6⟩ := id h
  refine (fuse_any p db _ cp _ _ _ w m h1).mono fun e w' ⟨he, hb, ht⟩ => ⟨he, ?_⟩
  exact h.top hb hD hF ht h1 (Nat.le_refl _) (by split <;> omega) (by split <;> omega) g5 g6
theorem onP (h : PlantAt w p F s K) : Calls Try.prog 26 #[.pointer (some ⟨p, 0, none⟩)] w fun e w' => e = .returned (.bool s.on) ∧ w = w' := by
  obtain ⟨db, cp, C, dv, h1, _⟩ := h
  exact on_any p db _ cp _ _ _ w h1
theorem stepsP (h : PlantAt w p F s K) : Calls Try.prog 25 #[.pointer (some ⟨p, 0, none⟩)] w fun e w' => e = .returned (.int .i64 s.steps) ∧ w = w' := by
  obtain ⟨db, cp, C, dv, h1, _⟩ := h
  exact steps_any p db _ cp _ _ _ w h1
theorem lenP_bad (h : PlantAt w p F s K) (dev : Int) (hd : ¬ (0 ≤ dev ∧ dev < s.ds.length)) :
    Calls Try.prog 42 #[.pointer (some ⟨p, 0, none⟩), .int .i64 dev] w fun e w' => e = .returned (.tuple #[.int .i64 0, .int .i64 31]) ∧ w = w' := by
  obtain ⟨db, cp, C, dv, h1, _⟩ := h
  exact len_bad p db _ cp _ _ _ dev w h1 hd
theorem lenP_good (h : PlantAt w p F s K) (i : Nat) (d : AD) (hd : s.ds[i]? = some d) :
    Calls Try.prog 42 #[.pointer (some ⟨p, 0, none⟩), .int .i64 (i : Int)] w fun e w' => e = .returned (.tuple #[.int .i64 d.n, .int .i64 0]) ∧ w = w' := by
  obtain ⟨db, cp, C, dv, h1, hD, _, _, g2, _⟩ := h
  exact len_good p db _ cp _ _ _ w C d.n i h1 hD.blk (List.getElem?_eq_some_iff.1 hd).1 (hD.at_ i d hd).c0 g2
end
end Go.Proofs.Ytgdlidjjogoiaaa
