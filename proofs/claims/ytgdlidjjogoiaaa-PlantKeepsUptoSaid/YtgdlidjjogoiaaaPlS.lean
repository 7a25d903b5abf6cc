/-
  plant's Write, where it is done; Flush
-/
import Derived.Test.YtgdlidjjogoiaaaPlR
namespace Go.Proofs.Ytgdlidjjogoiaaa
open Go.RowKit Go.Maps
set_option linter.unusedVariables false
theorem Waits.ne_map {w : World} {v : Value} {ws : List Wt} {b n : Nat} {f : Int → Option Sec} (h : Waits w v ws) (hm : MapAt w kI eS b n f) : v.ownBlock ≠ some b := by
  intro hb
  rcases h.2 with ⟨e1, _⟩ | ⟨g', cap, cur, e1, _, h4, _⟩
  · rw [e1] at hb
    cases hb
  · rw [e1] at hb
    injection hb with hb
    have hb' : g' = b := hb
    exact hm.ne (g := g') (cs := cur) h4 hb'
theorem Waits.ne_blk {w : World} {v : Value} {ws : List Wt} {g : Nat} {t : TypeId} {cs : Array Value} (h : Waits w v ws) (hg : Blk w g t cs) (ht : t ≠ 69) : v.ownBlock ≠ some g := by
  intro hb
  rcases h.2 with ⟨e1, _⟩ | ⟨g', cap, cur, e1, _, h4, _⟩
  · rw [e1] at hb
    cases hb
  · rw [e1] at hb
    injection hb with hb
    have hb' : g' = g := hb
    subst hb'
    exact Blk.ne_ hg (g' := g') (cs' := cur) h4 ht rfl
section
variable {w w' : World} {p db : Nat} {C C' : Array Value} {ds : List AD} {dv : Nat → DV} {K K' : Nat} {F : Nat → Prop} {s : AP}
theorem exec_build3 {P : Program} {a : Act} {o : Oper} {t : TypeId} {x y z : Operand} {u v q r : Value} {W : World} (ho : o.op = .build t #[(0, x), (1, y), (2, z)]) (hx : a.eval x = u) (hy : a.eval y = v) (hz : a.eval z = q)
    (h : (Instr.build t #[(0, u), (1, v), (2, q)]).run P W = .ok r W) : (execOp a.eval o).run P W = .ok (.value r) W := by
  unfold execOp
  simp only [ho, List.map_toArray, List.map_cons, List.map_nil, hx, hy, hz, h, Sem.run_bind, Sem.run_pure, Result.andThen_ok]
theorem exec_arrayAt {a : Act} {o : Oper} {x : Operand} {A : Option Addr} {c : Nat} {W : World} (ho : o.op = .sliceToArrayPointer 66 x) (hx : a.eval x = .slice A 64 c) : (execOp a.eval o).run Try.prog W = .ok (.value (.pointer A)) W := by
  unfold execOp
  simp only [ho, hx]
  have hu := Try.underlying66
  simp [Instr.arrayAt, run_underlying hu, Result.andThen]
set_option maxHeartbeats 1000000 in
theorem write_ok (h : PlantAt w p F s K) (i : Nat) (d : AD) (hd : s.ds[i]? = some d) (hon : s.on = true) (place : Int) (hp : 0 ≤ place ∧ place < d.n) (h0 : s.fuse ≠ 0) (a : Option Addr) (cap : Nat) (b : Sec) (hb : Bs w a 64 b.1) (hK : K < 1099511627775) :
    Calls Try.prog 14 #[.pointer (some ⟨p, 0, none⟩), .int .i64 (i : Int), .int .i64 place, .slice a 64 cap] w fun e w' => e = .returned (.int .i64 0) ∧ Goes2 w p F w' (s.put i d place b) (K + 1) := by
  have hq := refP_ok h i d hd hon place hp
  obtain ⟨db, cp, C, dv, h1, hD, hF, g1, g2, g3, g4, g5, g6⟩ := id h
  have hi := (List.getElem?_eq_some_iff.1 hd).1
  have hA := hD.at_ i d hd
  have hst := step_on p db s.ds.length cp s.on s.fuse s.steps w h1 h0 g3 g4 g5 (by omega)
  obtain ⟨bb, off, rfl, hbp, hbl, hr⟩ := bs_not_plant hb (by omega) h1
  have hn1 := hA.fl
  have z1 : (0 : Int) ≤ (i : Int) := by omega
  have z2 : (i : Int) < (s.ds.length : Int) := by omega
  have Hq := Lib.hid hq
  have Hs := Lib.hid hst
  have H := Lib.hid h
  have HD := Lib.hid hD
  have Hd := Lib.hid hd
  have H1 := Lib.hid h1
  have HA := Lib.hid hA
  clear hq hd hst h0 hA hD h hb h1
  go_enter Try.func14, Try.ntmps14
  go_wp2_with (first
    | (go_at_call 29; refine Hq.out.mono ?_; rintro e w' ⟨rfl, rfl⟩)
    | (go_at_call 30; refine Hs.out.mono ?_; rintro e w1 ⟨rfl, hb1, ht1⟩; have HT := Lib.hid ht1; clear ht1))
  have c0 : w1.cell? ⟨p, 0, none⟩ = some (.slice (some ⟨db, 0, none⟩) s.ds.length cp) := hb1.cell 0
  have c3 : w1.cell? ⟨p, 3, none⟩ = some (.int .i64 (s.steps + 1)) := hb1.cell 3
  have hr1 : w1.rangeAt bb off (bcs b.1) := fun j v hv => by
    rw [HT.out.cell (p := ⟨bb, off + j, none⟩) hbl hbp]
    exact hr j v hv
  have Hr := Lib.hid hr1
  have Hn := Lib.hid hF
  clear hr1 hr hF
  generalize hnn : s.ds.length = n at *
  have HN := Lib.hid hnn
  clear hnn
  refine wp_region_still_tail 15 (by kernel_rfl) (by kernel_rfl) ?_
  simp only [List.take_succ_cons, List.take_zero, List.drop_succ_cons, List.drop_zero]
  iterate 12 still_step
  refine wpStill_run rfl (exec_arrayAt rfl rfl) ?_
  refine wpStill_load rfl _ _ rfl _ _ rfl (load_sector Hr.out _ rfl) ?_
  refine wpStill_run rfl (exec_build3 rfl rfl rfl rfl (build_write _ _ b _)) ?_
  refine wpStill_nil ?_
  change wpList _ _ _ _ _ w1.drew
  go_wp2_with fail
  obtain ⟨n1, hn1a, hn1b⟩ := hn1
  have hi : i < s.ds.length := by rw [HN.out]; exact hi
  have hTd : Turn (only p) w w1.drew := HT.out.drew
  have hlt := HA.out
  have hdb : ¬ only p db := Blk.ne_ HD.out.blk H1.out (by decide)
  have hnp : ∀ b, (dv i).has b → ¬ only p b := fun b hb e => HD.out.ne hi hb H1.out (by decide) e.symm
  have hd1 : Blk w1.drew db 62 C := HD.out.blk.turn hTd hdb
  have hnw : MapAt w1.drew kI eS (dv i).nw d.ws.length (lastW d.ws) := HA.out.nw.turn hTd (hnp _ (.inr (.inl rfl)))
  have hws : Waits w1.drew (dv i).wv d.ws := HA.out.ws.turn hTd (fun g hg => hnp g (.inr (.inr hg)))
  have hwf : (Lit.int IntKind.i64 place).wf = true := place_wf HA.out.n0 hp
  refine (add_walk db (i * 4) (dv i).nw d.ws.length (lastW d.ws) (s.steps + 1, place, b) C (dv i).wv d.ws w1.drew hd1 HA.out.c2 HA.out.c3 hnw hwf hws (by omega) (by omega)).mono ?_
  rintro e w2 ⟨rfl, wv', q1, q2, q3, q4, q5⟩
  have hsz := HD.out.size
  rw [HN.out] at hsz
  obtain ⟨s1, s2, s3⟩ := set3 C i wv' (by omega)
  have hA := HA.out
  have hDA : DiskAt w2 (C.setIfInBounds (i * 4 + 3) wv') i { d with ws := d.ws ++ [(s.steps + 1, place, b)] } { (dv i) with wv := wv' } (K + 1) := {
    c0 := (s3 0 (by omega)).trans hA.c0
    c1 := (s3 1 (by omega)).trans hA.c1
    c2 := (s3 2 (by omega)).trans hA.c2
    c3 := s2
    ne := hA.ne
    fl := ⟨n1, by simp; omega, (hn1b.turn hTd (hnp _ (.inl rfl))).turn q5 (by
      rintro (e | e | e)
      · exact HD.out.ne hi (.inl rfl) HD.out.blk (by decide) e.symm
      · exact hA.ne e
      · exact HA.out.ws.ne_map hn1b e)⟩
    nw := by
      rw [List.length_append, lastW_snoc]
      exact q2
    ws := q3
    wf := fun x hx => by
      rcases List.mem_append.1 hx with hx | hx
      · exact hA.wf x hx
      · rw [List.mem_singleton.1 hx]
        exact hwf
    n0 := hA.n0 }
  have hTw : Turn (fun k => k = db ∨ (dv i).has k) w1.drew w2 := q5.mono fun k _ e => by
    rcases e with e | e | e
    · exact .inl e
    · exact .inr (.inr (.inl e))
    · exact .inr (.inr (.inr e))
  have hD1 : DisksAt w1.drew db C s.ds dv K := HD.out.keep (hTd.block _ HD.out.blk.lt hdb) (fun j hj b hb => hTd.block _ (HD.out.lt hj hb) fun e => HD.out.ne hj hb H1.out (by decide) e.symm) (Nat.le_refl _)
  have hv : ∀ b, ({ (dv i) with wv := wv' } : DV).has b → (dv i).has b ∨ w1.drew.heap.size ≤ b := by
    rintro k (e | e | e)
    · exact .inl (.inl e)
    · exact .inl (.inr (.inl e))
    · rcases q4 with e4 | ⟨g, e4, hg⟩
      · exact .inl (.inr (.inr (e4 ▸ e)))
      · rw [e4] at e
        injection e with e
        exact .inr (e ▸ hg)
  have hD2 := hD1.upd hi q1 (by simp) s1 hDA (by omega) hTw hv
  have hb2 : Blk w2 p 58 (plantCells db n cp s.on (burnt s.fuse) (s.steps + 1)) := hb1.drew.turn hTw (by
    rintro (e | e)
    · exact hdb e.symm
    · exact hnp p e rfl)
  have hsz1 := hTd.size
  have hG : Goes2 w p F w2 (s.put i d place b) (K + 1) := by
    refine ⟨PlF p db n (setV dv i { (dv i) with wv := wv' }), ⟨db, cp, _, _, ?_, hD2, ?_, ?_, ?_, ?_, ?_, ?_, ?_⟩, ?_, ?_⟩
    · simpa [AP.put, HN.out] using hb2
    · simp [AP.put, HN.out]
    · simpa [AP.put, HN.out] using g1
    · simpa [AP.put, HN.out] using g2
    · simp only [AP.put, burnt]; split <;> omega
    · simp only [AP.put, burnt]; split <;> omega
    · simp only [AP.put]; omega
    · simp only [AP.put]; omega
    · refine (hTd.mono fun k _ e => ?_).trans hTw fun k _ e => ?_
      · rw [Hn.out]
        exact .inl e
      · rw [Hn.out]
        rcases e with e | e
        · exact .inr (.inl e)
        · exact .inr (.inr ⟨i, by rw [← HN.out]; exact hi, e⟩)
    · intro k hk
      rw [Hn.out]
      rcases plf_upd (by rw [← HN.out]; exact hi) hv k hk with e | e
      · exact .inl e
      · exact .inr (by omega)
  have HG := Lib.hid hG
  clear hG hD2 hD1 hb2 hDA q1 q2 q3 q4 q5 hTw hv s1 s2 s3 hA
  go_wp2
  go_ret
  exact ⟨rfl, HG.out⟩
end
end Go.Proofs.Ytgdlidjjogoiaaa
