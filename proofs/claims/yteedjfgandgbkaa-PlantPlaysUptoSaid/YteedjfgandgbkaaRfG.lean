/-
  The reference plant's Read where it may be read, walked. Condition: fewer than 2^40 writes wait.
-/
import Derived.Test.YteedjfgandgbkaaRfF
namespace Go.Proofs.Yteedjfgandgbkaa
open Go.RowKit Go.Maps
set_option linter.unusedVariables false
set_option linter.unusedSimpArgs false
/-- a write that waits: its disk, its place, what is written -/
abbrev WtR := Nat × Int × Sec
/-- the writes that wait -/
def WaitsR (w : World) (wv : Value) (R : List WtR) : Prop := ∃ vals : List Value, w.ownsRow 0 72 3 wv R.length vals ∧ ∀ (i : Nat) (x : WtR), R[i]? = some x → vals[i * 3]? = some (.int .i64 (x.1 : Int)) ∧ vals[i * 3 + 1]? = some (.int .i64 x.2.1) ∧ ∃ u, vals[i * 3 + 2]? = some u ∧ SecV w u (some x.2.2)
/-- what was written last there -/
def rlast (R : List WtR) (i : Nat) (k : Int) : Option Sec := R.foldl (fun o x => if x.1 = i ∧ x.2.1 = k then some x.2.2 else o) none
theorem rlast_snoc (R : List WtR) (x : WtR) (i : Nat) (k : Int) : rlast (R ++ [x]) i k = if x.1 = i ∧ x.2.1 = k then some x.2.2 else rlast R i k := by simp [rlast, List.foldl_append]
theorem rlast_take {R : List WtR} {j : Nat} {x : WtR} (h : R[j]? = some x) (i : Nat) (k : Int) : rlast (R.take (j + 1)) i k = if x.1 = i ∧ x.2.1 = k then some x.2.2 else rlast (R.take j) i k := by
  rw [List.take_add_one, h, ← rlast_snoc]
  rfl
theorem waits_at {w : World} {wv : Value} {R : List WtR} (h : WaitsR w wv R) {j : Nat} {x : WtR} (hx : R[j]? = some x) :
    ∃ g c u, wv = .slice (some ⟨g, 0, none⟩) R.length c ∧ w.cell? ⟨g, j * 3 + 0, none⟩ = some (.int .i64 (x.1 : Int)) ∧ w.cell? ⟨g, j * 3 + 1, none⟩ = some (.int .i64 x.2.1) ∧ w.cell? ⟨g, j * 3 + 2, none⟩ = some u ∧ SecV w u (some x.2.2) := by
  obtain ⟨vals, h1, h2⟩ := h
  obtain ⟨e0, e1, u, e2, hs⟩ := h2 j x hx
  have hj := (List.getElem?_eq_some_iff.1 hx).1
  rcases id h1.2 with ⟨_, h0⟩ | ⟨g, cap, cur, rfl, _⟩
  · omega
  · have hc := h1.cells (g := g) rfl
    refine ⟨g, cap, u, rfl, ?_, ?_, ?_, hs⟩
    · have := hc _ _ e0
      rwa [add_nat, Nat.zero_add] at this
    · have := hc _ _ e1
      rwa [add_nat, Nat.zero_add] at this
    · have := hc _ _ e2
      rwa [add_nat, Nat.zero_add] at this
theorem SecV.still {w w' : World} {u : Value} {o : Option Sec} (h : SecV w u o) (ht : Turn nowhere w w') : SecV w' u o := by
  rcases h with h | ⟨s, b, off, c, cu, h1, h2, h3, h4, h5⟩
  · exact .inl h
  · exact .inr ⟨s, b, off, c, cu, h1, h2, h3, h4.still ht, (ht.block b (Array.getElem?_eq_some_iff.1 h5).1 (fun e => e)).trans h5⟩
theorem rows_still {w w' : World} {e : TypeId} {sz n : Nat} {v : Value} {xs : List Value} (h : w.ownsRow 0 e sz v n xs) (ht : Turn nowhere w w') : w'.ownsRow 0 e sz v n xs := by
  refine ⟨h.1, ?_⟩
  rcases h.2 with h0 | ⟨g, cap, cur, rfl, hb1, hgg, rest⟩
  · exact .inl h0
  · exact .inr ⟨g, cap, cur, rfl, hb1, (ht.block g (Array.getElem?_eq_some_iff.1 hgg).1 (fun e => e)).trans hgg, rest⟩
theorem WaitsR.still {w w' : World} {wv : Value} {R : List WtR} (h : WaitsR w wv R) (ht : Turn nowhere w w') : WaitsR w' wv R := by
  obtain ⟨vals, h1, h2⟩ := h
  refine ⟨vals, rows_still h1 ht, fun i x hi => ?_⟩
  obtain ⟨e0, e1, u, e2, hs⟩ := h2 i x hi
  exact ⟨e0, e1, u, e2, hs.still ht⟩
set_option maxRecDepth 20000 in
set_option maxHeartbeats 2000000 in
theorem rread_ok {w : World} {q i k : Nat} {A : Option Addr} {n cap : Nat} {zs : List Int} {hv wv : Value} {burns : Bool} {left done : Int} {ds : List (Nat × (Int → Option Sec))} {d : Nat × (Int → Option Sec)} {R : List WtR} (hb : Blk w q 49 (refCells (.slice A n cap) hv wv false burns left done)) (hz : Ks w nowhere A n zs) (hh : HasR w hv ds) (hw : WaitsR w wv R) (hi : i < n) (hd : ds[i]? = some d) (hk : k < d.1) (hzd : zs.getD i 0 = (d.1 : Int)) (hR : R.length < 1099511627776) :
    Calls Try.prog 38 #[.pointer (some ⟨q, 0, none⟩), .int .i64 (i : Int), .int .i64 (k : Int)] w fun e w' => ∃ g c, e = .returned (.tuple #[.slice (some ⟨g, 0, none⟩) 64 c, .int .i64 0]) ∧ Own w' 0 5 (.slice (some ⟨g, 0, none⟩) 64 c) ((rlast R i (k : Int)).getD ((d.2 (k : Int)).getD zeroSec)).1 ∧ w.heap.size ≤ g ∧ Turn nowhere w w' := by
  have HH := Lib.hid (rhas_good hb i hi)
  have HF := Lib.hid (flushed_walk hb hh hd hk)
  obtain ⟨_, _, hcz⟩ := hz
  obtain ⟨gz, oz, rfl, hgz, _, hcell⟩ := hcz (by omega)
  have c0 : w.cell? ⟨q, 0, none⟩ = some (.slice (some ⟨gz, oz, none⟩) n cap) := hb.cell 0
  have c3 : w.cell? ⟨q, 3, none⟩ = some (.bool false) := hb.cell 3
  have cz : w.cell? ⟨gz, oz + i, none⟩ = some (.int .i64 (d.1 : Int)) := by rw [hcell i hi, hzd]
  have z1 : ¬ ((k : Int) < 0) := by omega
  have z2 : ¬ ((d.1 : Int) ≤ (k : Int)) := by omega
  obtain ⟨m, hm⟩ : ∃ m, m = (d.2 (k : Int)).getD zeroSec := ⟨_, rfl⟩
  rw [← hm] at HF ⊢
  generalize (d.1 : Int) = dn at *
  have HI := Lib.hid hi
  have HB := Lib.hid hb
  have HW := Lib.hid hw
  have HR := Lib.hid hR
  have Z2 := Lib.hid z2
  clear hb hh hw hi hd hk hzd hR hcz hcell hm z2
  go_enter Try.func38, Try.ntmps38
  go_upto_region 3 with fail
  refine wp_region_lit ?_
  refine wpList_run (v := .pointer (some ⟨q, 0, none⟩)) rfl (exec_move rfl rfl) ?_
  simp only [Act.put, List.setIfInBounds_toArray, List.set_cons_zero, List.set_cons_succ]
  refine wpList_run (v := .int .i64 (i : Int)) rfl (exec_move rfl rfl) ?_
  simp only [Act.put, List.setIfInBounds_toArray, List.set_cons_zero, List.set_cons_succ]
  go_wp2_with fail
  refine HH.out.mono ?_
  rintro e w1 ⟨rfl, rfl⟩
  simp only [Act.put, List.setIfInBounds_toArray, List.set_cons_zero, List.set_cons_succ]
  rename_i K1 hK1
  refine hK1 _ _ ?_
  clear hK1 K1 HH
  refine wpList_run (v := .bool false) rfl (ix_not (b := true) rfl rfl) ?_
  simp only [Act.put, List.setIfInBounds_toArray, List.set_cons_zero, List.set_cons_succ]
  refine wpList_run (v := .bool false) rfl (exec_move rfl rfl) ?_
  simp only [Act.put, List.setIfInBounds_toArray, List.set_cons_zero, List.set_cons_succ]
  refine wpList_run (v := .int .i64 (k : Int)) rfl (exec_move rfl rfl) ?_
  simp only [Act.put, List.setIfInBounds_toArray, List.set_cons_zero, List.set_cons_succ]
  refine wpList_run (v := .bool false) rfl (ix_lss rfl rfl rfl (decide_eq_false (by omega))) ?_
  simp only [Act.put, List.setIfInBounds_toArray, List.set_cons_zero, List.set_cons_succ]
  refine wpList_run (v := .bool false) rfl (ix_pickF rfl rfl rfl) ?_
  simp only [Act.put, List.setIfInBounds_toArray, List.set_cons_zero, List.set_cons_succ]
  refine wpList_run (v := .bool false) rfl (exec_move rfl rfl) ?_
  simp only [Act.put, List.setIfInBounds_toArray, List.set_cons_zero, List.set_cons_succ]
  refine wpList_run (v := .int .i64 (k : Int)) rfl (exec_move rfl rfl) ?_
  simp only [Act.put, List.setIfInBounds_toArray, List.set_cons_zero, List.set_cons_succ]
  refine wpList_run (v := .pointer (some ⟨q, 0, none⟩)) rfl (exec_move rfl rfl) ?_
  simp only [Act.put, List.setIfInBounds_toArray, List.set_cons_zero, List.set_cons_succ]
  refine wpList_run (v := .pointer (some ⟨q, 0, none⟩)) rfl (exec_nil rfl rfl) ?_
  simp only [Act.put, List.setIfInBounds_toArray, List.set_cons_zero, List.set_cons_succ]
  refine wpList_run (v := .pointer (some ⟨q, 0, none⟩)) rfl (exec_field (off := 0) (d := 0) rfl rfl (by kernel_rfl)) ?_
  simp only [Act.put, List.setIfInBounds_toArray, List.set_cons_zero, List.set_cons_succ]
  refine wpList_run (v := .slice (some ⟨gz, oz, none⟩) n cap) rfl (exec_load1 rfl rfl (by kernel_rfl) c0) ?_
  simp only [Act.put, List.setIfInBounds_toArray, List.set_cons_zero, List.set_cons_succ]
  refine wpList_run (v := .int .i64 (i : Int)) rfl (exec_move rfl rfl) ?_
  simp only [Act.put, List.setIfInBounds_toArray, List.set_cons_zero, List.set_cons_succ]
  refine wpList_run (v := .pointer (some ⟨gz, oz + i, none⟩)) rfl (gx_iaddr (i := i) (sz := 1) rfl rfl rfl Try.underlying22 (by kernel_rfl) HI.out (by omega)) ?_
  simp only [Act.put, List.setIfInBounds_toArray, List.set_cons_zero, List.set_cons_succ]
  refine wpList_run (v := .int .i64 dn) rfl (exec_load1 rfl rfl (by kernel_rfl) cz) ?_
  simp only [Act.put, List.setIfInBounds_toArray, List.set_cons_zero, List.set_cons_succ]
  refine wpList_run (v := .bool false) rfl (ix_geq rfl rfl rfl (decide_eq_false (by have := Z2.out; omega))) ?_
  simp only [Act.put, List.setIfInBounds_toArray, List.set_cons_zero, List.set_cons_succ]
  refine wpList_run (v := .bool false) rfl (ix_pickF rfl rfl rfl) ?_
  simp only [Act.put, List.setIfInBounds_toArray, List.set_cons_zero, List.set_cons_succ]

  clear c0 c3 cz z1
  go_upto_region 6 with (go_at_call 37; refine HF.out.mono ?_; rintro e w2 ⟨g2, cc2, rfl, ho2, hg2, ht2⟩)
  obtain ⟨nr, hnr⟩ : ∃ nr, nr = R.length := ⟨_, rfl⟩
  have HNR := Lib.hid hnr
  have HO2 := Lib.hid ho2
  have HG2 := Lib.hid hg2
  have HT2 := Lib.hid ht2
  clear ho2 hg2 ht2 hnr HF
  go_wp2_with fail
  go_loopg [8, 9] nr (fun gk bv iv wr => ∃ (j g c : Nat), j + gk = nr ∧ iv = .int .i64 (j : Int) ∧ bv = .slice (some ⟨g, 0, none⟩) 64 c ∧ Own wr 0 5 (.slice (some ⟨g, 0, none⟩) 64 c) ((rlast (R.take j) i (k : Int)).getD m).1 ∧ w.heap.size ≤ g ∧ Turn nowhere w wr)
  case atStart => exact ⟨0, g2, cc2, by omega, rfl, rfl, HO2.out, HG2.out, HT2.out⟩
  obtain ⟨j, g, c, hjl, rfl, rfl, hO, hG, htr⟩ := hrel
  have HJL := Lib.hid hjl
  have HO := Lib.hid hO
  have HG := Lib.hid hG
  have HTR := Lib.hid htr
  have cq : wr.cell? ⟨q, 2, none⟩ = some wv := (HB.out.turn htr (fun e => e)).cell 2
  have hwl : ∃ Aw cw, wv = .slice Aw nr cw := by
    obtain ⟨vals, h1, _⟩ := HW.out
    rw [HNR.out]
    rcases h1.2 with ⟨e, h0⟩ | ⟨g, cap, cur, e, _⟩
    · exact ⟨none, 0, by rw [e, h0]⟩
    · exact ⟨_, _, e⟩
  obtain ⟨Aw, cw, rfl⟩ := hwl
  have y9 : (nr : Int) ≤ 1099511627776 := by have := HNR.out; have := HR.out; omega
  clear hjl hO hG htr HO2 HG2 HT2
  by_cases hlt : j < nr
  · have y1 : (j : Int) < (nr : Int) := by omega
    have HLT := Lib.hid hlt
    obtain ⟨x, hx⟩ : ∃ x, R[j]? = some x := ⟨_, List.getElem?_eq_getElem (by rw [← HNR.out]; exact hlt)⟩
    obtain ⟨gw, cw', u, ew, e0, e1, e2, hs⟩ := waits_at (HW.out.still HTR.out) hx
    rw [← HNR.out] at ew
    obtain ⟨rfl, rfl⟩ : Aw = some ⟨gw, 0, none⟩ ∧ cw = cw' := by injection ew with h1 _ h3; exact ⟨h1, h3⟩
    have HX := Lib.hid (rlast_take hx i (k : Int))
    have HS := Lib.hid hs
    obtain ⟨xd, xp, xs⟩ := x
    clear hlt hx hs ew
    go_upto_region 9 with fail
    refine wp_region_lit ?_
    refine wpList_run (v := .pointer (some ⟨q, 0, none⟩)) rfl (exec_move rfl rfl) ?_
    simp only [Act.put, List.setIfInBounds_toArray, List.set_cons_zero, List.set_cons_succ]
    refine wpList_run (v := .pointer (some ⟨q, 0, none⟩)) rfl (exec_nil rfl rfl) ?_
    simp only [Act.put, List.setIfInBounds_toArray, List.set_cons_zero, List.set_cons_succ]
    refine wpList_run (v := .pointer (some ⟨q, 2, none⟩)) rfl (exec_field (off := 0) (d := 2) rfl rfl (by kernel_rfl)) ?_
    simp only [Act.put, List.setIfInBounds_toArray, List.set_cons_zero, List.set_cons_succ]
    refine wpList_run (v := .slice (some ⟨gw, 0, none⟩) nr cw) rfl (exec_load1 rfl rfl (by kernel_rfl) cq) ?_
    simp only [Act.put, List.setIfInBounds_toArray, List.set_cons_zero, List.set_cons_succ]
    refine wpList_run (v := .int .i64 (j : Int)) rfl (exec_move rfl rfl) ?_
    simp only [Act.put, List.setIfInBounds_toArray, List.set_cons_zero, List.set_cons_succ]
    refine wpList_run (v := .pointer (some ⟨gw, j * 3, none⟩)) rfl (gx_iaddr (i := j) (sz := 3) rfl rfl rfl Try.underlying47 (by kernel_rfl) HLT.out (by omega)) ?_
    simp only [Act.put, List.setIfInBounds_toArray, List.set_cons_zero, List.set_cons_succ]
    refine wpList_run (v := .pointer (some ⟨gw, j * 3 + 0, none⟩)) rfl (exec_field (off := j * 3) (d := 0) rfl rfl (by kernel_rfl)) ?_
    simp only [Act.put, List.setIfInBounds_toArray, List.set_cons_zero, List.set_cons_succ]
    refine wpList_run (v := .int .i64 (xd : Int)) rfl (exec_load1 rfl rfl (by kernel_rfl) e0) ?_
    simp only [Act.put, List.setIfInBounds_toArray, List.set_cons_zero, List.set_cons_succ]
    refine wpList_run (v := .int .i64 (i : Int)) rfl (exec_move rfl rfl) ?_
    simp only [Act.put, List.setIfInBounds_toArray, List.set_cons_zero, List.set_cons_succ]

    by_cases hxd : xd = i
    · have HXD := Lib.hid hxd
      clear hxd
      refine wpList_run (v := .bool true) rfl (ix_eql rfl rfl rfl (decide_eq_true (by rw [HXD.out]))) ?_
      simp only [Act.put, List.setIfInBounds_toArray, List.set_cons_zero, List.set_cons_succ]
      refine wpList_run (v := .bool true) rfl (exec_move rfl rfl) ?_
      simp only [Act.put, List.setIfInBounds_toArray, List.set_cons_zero, List.set_cons_succ]
      refine wpList_run (v := .pointer (some ⟨q, 0, none⟩)) rfl (exec_move rfl rfl) ?_
      simp only [Act.put, List.setIfInBounds_toArray, List.set_cons_zero, List.set_cons_succ]
      refine wpList_run (v := .pointer (some ⟨q, 0, none⟩)) rfl (exec_nil rfl rfl) ?_
      simp only [Act.put, List.setIfInBounds_toArray, List.set_cons_zero, List.set_cons_succ]
      refine wpList_run (v := .pointer (some ⟨q, 2, none⟩)) rfl (exec_field (off := 0) (d := 2) rfl rfl (by kernel_rfl)) ?_
      simp only [Act.put, List.setIfInBounds_toArray, List.set_cons_zero, List.set_cons_succ]
      refine wpList_run (v := .slice (some ⟨gw, 0, none⟩) nr cw) rfl (exec_load1 rfl rfl (by kernel_rfl) cq) ?_
      simp only [Act.put, List.setIfInBounds_toArray, List.set_cons_zero, List.set_cons_succ]
      refine wpList_run (v := .int .i64 (j : Int)) rfl (exec_move rfl rfl) ?_
      simp only [Act.put, List.setIfInBounds_toArray, List.set_cons_zero, List.set_cons_succ]
      refine wpList_run (v := .pointer (some ⟨gw, j * 3, none⟩)) rfl (gx_iaddr (i := j) (sz := 3) rfl rfl rfl Try.underlying47 (by kernel_rfl) HLT.out (by omega)) ?_
      simp only [Act.put, List.setIfInBounds_toArray, List.set_cons_zero, List.set_cons_succ]
      refine wpList_run (v := .pointer (some ⟨gw, j * 3 + 1, none⟩)) rfl (exec_field (off := j * 3) (d := 1) rfl rfl (by kernel_rfl)) ?_
      simp only [Act.put, List.setIfInBounds_toArray, List.set_cons_zero, List.set_cons_succ]
      refine wpList_run (v := .int .i64 xp) rfl (exec_load1 rfl rfl (by kernel_rfl) e1) ?_
      simp only [Act.put, List.setIfInBounds_toArray, List.set_cons_zero, List.set_cons_succ]
      refine wpList_run (v := .int .i64 (k : Int)) rfl (exec_move rfl rfl) ?_
      simp only [Act.put, List.setIfInBounds_toArray, List.set_cons_zero, List.set_cons_succ]

      by_cases hxp : xp = (k : Int)
      · have HXP := Lib.hid hxp
        clear hxp
        have hsx := HS.out
        obtain ⟨sx, bx, ox, cx, cu, q1, rfl, q3, q4, q5⟩ : ∃ (s : Sec) (b off c : Nat) (cu : Array Value), some xs = some s ∧ u = .slice (some ⟨b, off, none⟩) 64 c ∧ 64 ≤ c ∧ Bs wr (some ⟨b, off, none⟩) 64 s.1 ∧ wr.heap[b]? = some (.cells cu 5 (0, 0)) := by
          rcases hsx with ⟨h, _⟩ | h
          · cases h
          · exact h
        obtain rfl : xs = sx := Option.some.inj q1
        obtain ⟨A3, c3, w3, hrun, hown, ht3, hnew⟩ := copy_src (ty := 36) (c := cx) q4 (fun e => by cases e) (by omega)
        obtain ⟨g3, rfl⟩ : ∃ g3, A3 = some ⟨g3, 0, none⟩ := by
          rcases hown.2 with ⟨e, h0⟩ | ⟨g, cap, cur, e, _, hg, _⟩
          · injection e with _ e2 _
            cases e2
          · injection e with e1 e2 e3
            exact ⟨g, e1⟩
        have HRUN := Lib.hid hrun
        have HO3 := Lib.hid hown
        have HG3 := Lib.hid (Nat.le_trans HTR.out.size (hnew g3 rfl))
        have HT3 := Lib.hid (HTR.out.trans ht3 (fun _ _ e => e))
        have HE := Lib.hid (show rlast (R.take (j + 1)) i (k : Int) = some xs from by rw [HX.out, if_pos ⟨HXD.out, HXP.out⟩])
        clear hsx q1 q4 q5 hrun hown ht3 hnew
        refine wpList_run (v := .bool true) rfl (ix_eql rfl rfl rfl (decide_eq_true HXP.out)) ?_
        simp only [Act.put, List.setIfInBounds_toArray, List.set_cons_zero, List.set_cons_succ]
        refine wpList_run (v := .bool true) rfl (ix_pickT rfl rfl rfl) ?_
        simp only [Act.put, List.setIfInBounds_toArray, List.set_cons_zero, List.set_cons_succ]

        go_upto_region 10 with fail
        refine wp_region_lit ?_
        refine wpList_run (v := .slice (some ⟨wr.heap.size, 0, none⟩) 0 0) (w' := wr.alloc (.cells #[] 5)) rfl (exec_buildNone rfl (build_noneB _)) ?_
        simp only [Act.put, List.setIfInBounds_toArray, List.set_cons_zero, List.set_cons_succ]
        refine wpList_run (v := .pointer (some ⟨q, 0, none⟩)) rfl (exec_move rfl rfl) ?_
        simp only [Act.put, List.setIfInBounds_toArray, List.set_cons_zero, List.set_cons_succ]
        refine wpList_run (v := .pointer (some ⟨q, 0, none⟩)) rfl (exec_nil rfl rfl) ?_
        simp only [Act.put, List.setIfInBounds_toArray, List.set_cons_zero, List.set_cons_succ]
        refine wpList_run (v := .pointer (some ⟨q, 2, none⟩)) rfl (exec_field (off := 0) (d := 2) rfl rfl (by kernel_rfl)) ?_
        simp only [Act.put, List.setIfInBounds_toArray, List.set_cons_zero, List.set_cons_succ]
        refine wpList_run (v := .slice (some ⟨gw, 0, none⟩) nr cw) rfl (exec_load1 rfl rfl (by kernel_rfl) (by rw [World.cell?_of_block (Below.heap_alloc wr _ _ (World.block_lt_of_cell? _ _ cq))]; exact cq)) ?_
        simp only [Act.put, List.setIfInBounds_toArray, List.set_cons_zero, List.set_cons_succ]
        refine wpList_run (v := .int .i64 (j : Int)) rfl (exec_move rfl rfl) ?_
        simp only [Act.put, List.setIfInBounds_toArray, List.set_cons_zero, List.set_cons_succ]
        refine wpList_run (v := .pointer (some ⟨gw, j * 3, none⟩)) rfl (gx_iaddr (i := j) (sz := 3) rfl rfl rfl Try.underlying47 (by kernel_rfl) HLT.out (by omega)) ?_
        simp only [Act.put, List.setIfInBounds_toArray, List.set_cons_zero, List.set_cons_succ]
        refine wpList_run (v := .pointer (some ⟨gw, j * 3 + 2, none⟩)) rfl (exec_field (off := j * 3) (d := 2) rfl rfl (by kernel_rfl)) ?_
        simp only [Act.put, List.setIfInBounds_toArray, List.set_cons_zero, List.set_cons_succ]
        refine wpList_run (v := .slice (some ⟨bx, ox, none⟩) 64 cx) rfl (exec_load1 rfl rfl (by kernel_rfl) (by rw [World.cell?_of_block (Below.heap_alloc wr _ _ (World.block_lt_of_cell? _ _ e2))]; exact e2)) ?_
        simp only [Act.put, List.setIfInBounds_toArray, List.set_cons_zero, List.set_cons_succ]
        refine wpList_run (v := .slice (some ⟨g3, 0, none⟩) 64 c3) (w' := w3) rfl (exec_append rfl rfl rfl HRUN.out) ?_
        simp only [Act.put, List.setIfInBounds_toArray, List.set_cons_zero, List.set_cons_succ]

        clear e0 e1 e2 cq
        go_wp2_with fail
        go_roundg (gk - 1)
        case measure => have := HJL.out; have := HLT.out; omega
        case rel => exact ⟨j + 1, g3, c3, by have := HJL.out; have := HLT.out; omega, by go_num, rfl, by rw [HE.out]; exact HO3.out, HG3.out, HT3.out⟩

      · have HXP := Lib.hid hxp
        clear hxp e0 e1 e2 cq
        have HE := Lib.hid (show rlast (R.take (j + 1)) i (k : Int) = rlast (R.take j) i (k : Int) from by rw [HX.out, if_neg (fun h => HXP.out h.2)])
        refine wpList_run (v := .bool false) rfl (ix_eql rfl rfl rfl (decide_eq_false HXP.out)) ?_
        simp only [Act.put, List.setIfInBounds_toArray, List.set_cons_zero, List.set_cons_succ]
        refine wpList_run (v := .bool false) rfl (ix_pickT rfl rfl rfl) ?_
        simp only [Act.put, List.setIfInBounds_toArray, List.set_cons_zero, List.set_cons_succ]
        go_wp2_with fail
        go_roundg (gk - 1)
        case measure => have := HJL.out; have := HLT.out; omega
        case rel => exact ⟨j + 1, g, c, by have := HJL.out; have := HLT.out; omega, by go_num, rfl, by rw [HE.out]; exact HO.out, HG.out, HTR.out⟩

    · have HXD := Lib.hid hxd
      clear hxd e0 e1 e2 cq
      have HE := Lib.hid (show rlast (R.take (j + 1)) i (k : Int) = rlast (R.take j) i (k : Int) from by rw [HX.out, if_neg (fun h => HXD.out h.1)])
      refine wpList_run (v := .bool false) rfl (ix_eql rfl rfl rfl (decide_eq_false (fun h => HXD.out (by omega)))) ?_
      simp only [Act.put, List.setIfInBounds_toArray, List.set_cons_zero, List.set_cons_succ]
      refine wpList_run (v := .bool false) rfl (exec_move rfl rfl) ?_
      simp only [Act.put, List.setIfInBounds_toArray, List.set_cons_zero, List.set_cons_succ]
      go_wp2_with fail
      go_roundg (gk - 1)
      case measure => have := HJL.out; have := HLT.out; omega
      case rel => exact ⟨j + 1, g, c, by have := HJL.out; have := HLT.out; omega, by go_num, rfl, by rw [HE.out]; exact HO.out, HG.out, HTR.out⟩

  · have y1 : ¬ ((j : Int) < (nr : Int)) := by omega
    have HE := Lib.hid (show R.take j = R from List.take_of_length_le (by rw [← HNR.out]; omega))
    clear hlt
    go_wp2_with fail
    go_ret2
    exact ⟨g, c, rfl, by have := HO.out; rw [HE.out] at this; exact this, HG.out, HTR.out⟩
end Go.Proofs.Yteedjfgandgbkaa
