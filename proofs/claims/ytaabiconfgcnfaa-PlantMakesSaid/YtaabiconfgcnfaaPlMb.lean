/-
  groatlaw03's PlantMakes, walked. Condition: eight times the length is at most 2^47.
-/
import Derived.Test.YtaabiconfgcnfaaPlMa
import Derived.Test.YtaabiconfgcnfaaPlSh
import Derived.Laws.OwnMore
namespace Go.Proofs.Ytaabiconfgcnfaa
open Go.RowKit Go.Maps
set_option linter.unusedVariables false
theorem owned_form {w : World} {B : Nat} {e : TypeId} {sz n : Nat} {v : Value} {xs : List Value} (h : w.ownsRow B e sz v n xs) : ∃ A c, v = .slice A n c ∧ (A = none → c = 0) := by
  rcases h.2 with ⟨rfl, h0⟩ | ⟨g, cap, cur, rfl, _⟩
  · subst h0
    exact ⟨none, 0, rfl, fun _ => rfl⟩
  · exact ⟨_, _, rfl, fun e => by cases e⟩
theorem append_any {w : World} {a : Option Addr} {len cap : Nat} {zs : List Int} {ty : TypeId} (hz : Ks w nowhere a len zs) (ha : a = none → cap = 0) (hb : len * 8 ≤ 140737488355328) :
    ∃ A c w', (Builtin.append_ #[22, 22] ty #[.slice (some ⟨w.heap.size, 0, none⟩) 0 0, .slice a len cap]).run Try.prog (w.alloc (.cells #[] 3)) = .ok (.slice A len c) w' ∧ w'.ownsRow w.heap.size 3 1 (.slice A len c) len (intsL zs) ∧ Turn nowhere w w' := by
  by_cases hp : 0 < len
  · obtain ⟨v', w', h1, h2, h3⟩ := append_ints (ty := ty) hz hp hb
    obtain ⟨A, c, rfl, _⟩ := owned_form h2
    exact ⟨A, c, w', h1, h2, h3⟩
  · have hl0 : len = 0 := by omega
    subst hl0
    have hzs : zs = [] := List.eq_nil_of_length_eq_zero hz.1
    subst hzs
    obtain ⟨i0, hi0, hz0, hz1, hz2⟩ := info_parts info_int
    have ho : (w.alloc (.cells #[] 3)).ownsRow w.heap.size 3 1 (.slice (some ⟨w.heap.size, 0, none⟩) 0 0) 0 [] := World.ownsRow_made w _ 0 (Nat.le_refl _) (Nat.zero_le _) rfl
    rcases a with _ | ad
    · obtain rfl := ha rfl
      exact ⟨_, _, _, run_append_owned_none (P := Try.prog) (w := w.alloc (.cells #[] 3)) w.heap.size 22 ty 3 i0 1 Try.underlying22 hi0 _ 0 [] ho, ho, (Turn.refl nowhere w).alloc _⟩
    · obtain ⟨v', w', h1, h2, h3, _, _⟩ := run_append_own_at (P := Try.prog) (w.alloc (.cells #[] 3)) w.heap.size 22 ty 3 i0 _ 1 8 Try.underlying22 hi0 hz0 hz1 hz2 rfl (by omega) _ 0 [] ho ad 0 cap [] rfl (fun j u hj => by simp at hj) (fun u hu => by simp at hu) (by unfold maxLen; omega) (by omega) (by simp)
      obtain ⟨A, c, rfl, _⟩ := owned_form h2
      exact ⟨A, c, w', h1, h2, ((Turn.refl nowhere w).alloc (.cells #[] 3)).grown h3 (fun b e hb => by
        have : b = w.heap.size := (Option.some.inj e).symm
        omega)⟩
theorem exec_buildNone {P : Program} {a : Act} {o : Oper} {t : TypeId} {v : Value} {W W' : World} (ho : o.op = .buildSlice t 0 #[]) (h : (Instr.buildSlice t 0 #[]).run P W = .ok v W') : (execOp a.eval o).run P W = .ok (.value v) W' := by
  unfold execOp
  simp only [ho, List.map_toArray, List.map_nil, h, Sem.run_bind, Sem.run_pure, Result.andThen_ok]
theorem build_none (w : World) : (Instr.buildSlice 22 0 #[]).run Try.prog w = .ok (.slice (some ⟨w.heap.size, 0, none⟩) 0 0) (w.alloc (.cells #[] 3)) := by
  kernel_rfl
/-- a row of ints that the call made: its block -/
theorem own_blk {w : World} {B len : Nat} {A : Option Addr} {c : Nat} {zs : List Int} (h : w.ownsRow B 3 1 (.slice A len c) len (intsL zs)) (hl : zs.length = len) (hp : 0 < len) :
    ∃ g cs, A = some ⟨g, 0, none⟩ ∧ B ≤ g ∧ Blk w g 3 cs ∧ len ≤ cs.size ∧ Ks w nowhere A len zs := by
  obtain ⟨hlt, h2⟩ := id h
  rcases h2 with ⟨e, h0⟩ | ⟨g, cap, cur, e, hb, hg, hn, hm, hs, ht⟩
  · omega
  · injection e with e1 e2 e3
    subst e1
    refine ⟨g, cur, rfl, hb, hg, by omega, hl, by unfold maxLen at hm; omega, fun _ => ⟨g, 0, rfl, (Array.getElem?_eq_some_iff.1 hg).1, fun e => e, fun i hi => ?_⟩⟩
    have hc := World.ownsRow.cells (g := g) h rfl i (.int .i64 (zs.getD i 0)) (by
      unfold intsL
      rw [List.getElem?_map, List.getD_eq_getElem?_getD, List.getElem?_eq_getElem (by omega)]
      rfl)
    rw [add_nat] at hc
    exact hc
theorem Ks.turn {w w' : World} {a : Option Addr} {len : Nat} {zs : List Int} (h : Ks w nowhere a len zs) (ht : Turn nowhere w w') : Ks w' nowhere a len zs := by
  obtain ⟨h1, h2, h3⟩ := h
  refine ⟨h1, h2, fun hp => ?_⟩
  obtain ⟨g, off, rfl, hg, hn, hc⟩ := h3 hp
  exact ⟨g, off, rfl, Nat.lt_of_lt_of_le hg ht.size, hn, fun i hi => by rw [ht.cell (p := ⟨g, off + i, none⟩) hg (fun e => e)]; exact hc i hi⟩
theorem new_at {zs : List Int} {i : Nat} (h : i < zs.length) : ∃ d, (AP.new zs).ds[i]? = some d ∧ d.n = zs.getD i 0 := by
  refine ⟨_, show (AP.new zs).ds[i]? = some ⟨zs.getD i 0, fun _ => none, []⟩ from ?_, rfl⟩
  rw [List.getD_eq_getElem?_getD, List.getElem?_eq_getElem h]
  simp [AP.new, List.getElem?_eq_getElem h]
theorem new_len (zs : List Int) : (AP.new zs).ds.length = zs.length := by simp [AP.new]
set_option maxRecDepth 20000 in
set_option maxHeartbeats 1000000 in
theorem plantMakes_walk (a : Option Addr) (len cap : Nat) (zs : List Int) (W : World) (hz : Ks W nowhere a len zs) (ha : a = none → cap = 0) (hb : len * 8 ≤ 140737488355328) :
    Calls Try.prog 3 #[.slice a len cap] W fun e w' => e = .returned (.bool true) ∧ Below W.heap.size W w' := by
  have HZ := Lib.hid hz
  have HA := Lib.hid ha
  have HB := Lib.hid hb
  clear hz ha hb
  go_enter Try.func3, Try.ntmps3
  go_upto_region 2 with (first
    | (go_at_call 10; refine (shown_walk _).mono ?_; rintro e w1 ⟨rfl, ht⟩; have HT := Lib.hid ht; clear ht))
  obtain ⟨A, c, w2, hrun, hown, ht2⟩ := append_any (ty := 22) (HZ.out.turn HT.out) HA.out HB.out
  refine wp_region_lit ?_
  refine wpList_run (v := .slice (some ⟨w1.heap.size, 0, none⟩) 0 0) (w' := w1.alloc (.cells #[] 3)) rfl (exec_buildNone rfl (build_none w1)) ?_
  simp only [Act.put, List.setIfInBounds_toArray, List.set_cons_zero, List.set_cons_succ]
  refine wpList_run (v := .slice a len cap) rfl (exec_move rfl rfl) ?_
  simp only [Act.put, List.setIfInBounds_toArray, List.set_cons_zero, List.set_cons_succ]
  refine wpList_run (v := .slice A len c) (w' := w2) rfl (exec_append rfl rfl rfl hrun) ?_
  simp only [Act.put, List.setIfInBounds_toArray, List.set_cons_zero, List.set_cons_succ]
  have HO := Lib.hid hown
  have HT2 := Lib.hid (HT.out.trans ht2 (fun _ _ e => e))
  clear hrun hown ht2
  have hm : len ≤ 9223372036854775807 := HZ.out.2.1
  have hzl : zs.length = len := HZ.out.1
  have HM := Lib.hid hm
  have HL := Lib.hid hzl
  clear hm hzl
  by_cases h14 : 1 ≤ len ∧ len ≤ 4
  · obtain ⟨g, cs, rfl, hg, hblk, hsz, hks⟩ := own_blk HO.out HL.out (by omega)
    have HG := Lib.hid hg
    have HK := Lib.hid hblk
    have HS := Lib.hid hsz
    clear hg hblk hsz
    have H14 := Lib.hid h14
    clear h14
    go_wp2_with fail
    refine (new_walk (some ⟨g, 0, none⟩) len c zs hks H14.out.1 H14.out.2).mono ?_
    rintro e w3 (⟨hok, p, F', rfl, hpl, ht3, hlo⟩ | ⟨hno, rfl, ht3⟩)
    · have HOK := Lib.hid hok
      have HPL := Lib.hid hpl
      have HT3 := Lib.hid ht3
      have HLO := Lib.hid hlo
      clear hok hpl ht3 hlo hks
      go_wp2_with fail
      refine (rnew_walk a len cap zs (HZ.out.turn (HT2.out.trans HT3.out (fun _ _ e => e))) H14.out.1 H14.out.2).mono ?_
      rintro e w4 (⟨_, q, mv, hv, rfl, hrn, hq, ht4⟩ | ⟨hno, _⟩)
      · have HRN := Lib.hid hrn
        have HQ := Lib.hid hq
        have HT4 := Lib.hid ht4
        have HPL4 := Lib.hid (HPL.out.turn ht4 (fun _ _ e => e))
        have HK4 := Lib.hid ((HK.out.turn HT3.out (fun e => e)).turn ht4 (fun e => e))
        clear hrn hq ht4
        have hT4 := Lib.hid ((HT2.out.trans HT3.out (fun _ _ e => e)).trans HT4.out (fun _ _ e => e))
        go_wp2_with fail
        go_loopg [9] len (fun gk i wr => ∃ (k : Nat) (cs' : Array Value), k + gk = len ∧ i = .int .i64 (k : Int) ∧ Blk wr g 3 cs' ∧ cs'.size = cs.size ∧ Turn (only g) w4 wr)
        case atStart => exact ⟨0, cs, by omega, rfl, HK4.out, rfl, Turn.refl _ _⟩
        case round =>
          obtain ⟨k, cs', hkl, rfl, hbk, hsz, htr⟩ := hrel
          have HKL := Lib.hid hkl
          have HBK := Lib.hid hbk
          have HSZ := Lib.hid hsz
          have HTR := Lib.hid htr
          clear hkl hsz htr
          by_cases hlt : k < len
          · have y1 : (0 : Int) ≤ (k : Int) := by omega
            have y2 : (k : Int) < (len : Int) := by omega
            have y3 : (len : Int) ≤ 4 := by have := H14.out; omega
            have hcs : ∃ u, cs'[k]? = some u := ⟨_, Array.getElem?_eq_getElem (by rw [HSZ.out]; have := HS.out; omega)⟩
            obtain ⟨u, hu⟩ := hcs
            have c0 : wr.cell? ⟨g, k, none⟩ = some u := (hbk.cell k).trans hu
            have f0 := hbk.frozen k
            clear hbk hu
            go_wp2_with fail
            go_roundg (gk - 1)
            case measure => have := HKL.out; omega
            case rel => exact ⟨k + 1, _, by have := HKL.out; omega, by go_num, HBK.out.set_ k _, by rw [Array.size_setIfInBounds]; exact HSZ.out, HTR.out.at_ k _⟩
          · have hke : k = len := by have := HKL.out; omega
            subst hke
            clear hlt hbk
            have hp5 := HPL4.out.turn HTR.out (fun b hb he => by have h1 := HLO.out b hb; have h2 := HK.out.lt; have h3 : b = g := he; omega)
            have hq3 := HQ.out
            have hg3 : g < w3.heap.size := Nat.lt_of_lt_of_le HK.out.lt HT3.out.size
            have hm5 := row_keep HRN.out.mo fun b hb => HTR.out.block b (HRN.out.mo.lt b hb).2 (fun he => by have h1 := (HRN.out.mo.lt b hb).1; have h3 : b = g := he; omega)
            have ht5 := HRN.out.top.turn HTR.out (fun he => by have h3 : q = g := he; omega)
            have e0 : ((zs.take k).map fun z => Value.int .i64 z) = intsL zs := by rw [List.take_of_length_le (by rw [HL.out]; exact Nat.le_refl _)]; rfl
            rw [e0] at hm5
            obtain ⟨A5, c5, rfl, _⟩ := owned_form hm5
            obtain ⟨_, _, _, _, _, _, hk5⟩ := own_blk hm5 HL.out (by have := H14.out; omega)
            have HP5 := Lib.hid hp5
            have HK5 := Lib.hid hk5
            have HB5 := Lib.hid ht5
            have HT5 := Lib.hid (show Below W.heap.size W wr from (hT4.out.below (Nat.le_refl _) (fun _ _ e => e)).trans ((HTR.out.below (B := W.heap.size) hT4.out.size (fun b hb he => by
              have h1 := HG.out
              have h2 := HT.out.size
              have h3 : b = g := he
              omega))))
            clear hp5 hq3 hg3 hm5 ht5 e0 hk5
            generalize gk = gout at *
            generalize wr = wL at *
            go_wp2_with fail
            go_loopg [10] (k + 2) (fun gk i wr => ∃ j : Nat, j + gk = k + 2 ∧ i = .int .i64 ((j : Int) - 1) ∧ Turn nowhere wL wr)
            case atStart => exact ⟨0, by omega, rfl, Turn.refl _ _⟩
            case round =>
              obtain ⟨j, hjk, rfl, htr⟩ := hrel
              have HJK := Lib.hid hjk
              have HTr := Lib.hid htr
              clear hjk htr
              have y3 : (k : Int) ≤ 4 := by have := H14.out; omega
              by_cases hlt : j < k + 2
              · have y1 : (j : Int) - 1 ≤ (k : Int) := by omega
                have y2 : (j : Int) ≤ (k : Int) + 1 := by omega
                have y4 : (0 : Int) ≤ (j : Int) := by omega
                have HLT := Lib.hid hlt
                clear hlt
                by_cases hgd : 0 < j ∧ j < k + 1
                · obtain ⟨i, rfl⟩ : ∃ i, j = i + 1 := ⟨j - 1, by omega⟩
                  have hi : i < k := by omega
                  obtain ⟨d, hd, hdn⟩ := new_at (zs := zs) (i := i) (by rw [HL.out]; exact hi)
                  have ei : ((i + 1 : Nat) : Int) - 1 = (i : Int) := by omega
                  rw [ei] at y1 ⊢
                  have hl1 := lenP_good (HP5.out.turn HTr.out (fun _ _ e => e)) i d hd
                  have hl2 := rlen_good (HB5.out.turn HTr.out (fun e => e)) (HK5.out.turn HTr.out) i hi
                  rw [hdn] at hl1
                  generalize zs.getD i 0 = z at hl1 hl2
                  have HL1 := Lib.hid hl1
                  have HL2 := Lib.hid hl2
                  clear hgd hi hd hdn hl1 hl2 d
                  go_wp2_with fail
                  refine HL1.out.mono ?_
                  rintro e w6 ⟨rfl, rfl⟩
                  go_wp2_with fail
                  refine HL2.out.mono ?_
                  rintro e w6 ⟨rfl, rfl⟩
                  go_wp2_with fail
                  go_roundg (gk - 1)
                  case measure => have := HJK.out; have := HLT.out; omega
                  case rel => exact ⟨i + 2, by have := HJK.out; have := HLT.out; omega, by go_num, HTr.out⟩
                · have hbad : ¬ (0 ≤ (j : Int) - 1 ∧ (j : Int) - 1 < ((AP.new zs).ds.length : Int)) := by rw [new_len, HL.out]; omega
                  have hbad2 : ¬ (0 ≤ (j : Int) - 1 ∧ (j : Int) - 1 < (k : Int)) := by omega
                  have HB1 := Lib.hid hbad
                  have HB2 := Lib.hid hbad2
                  clear hbad hbad2 hgd
                  go_wp2_with fail
                  refine (lenP_bad (HP5.out.turn HTr.out (fun _ _ e => e)) ((j : Int) - 1) HB1.out).mono ?_
                  rintro e w6 ⟨rfl, rfl⟩
                  go_wp2_with fail
                  refine (rlen_bad (HB5.out.turn HTr.out (fun e => e)) ((j : Int) - 1) HB2.out).mono ?_
                  rintro e w6 ⟨rfl, rfl⟩
                  go_wp2_with fail
                  go_roundg (gk - 1)
                  case measure => have := HJK.out; have := HLT.out; omega
                  case rel => exact ⟨j + 1, by have := HJK.out; have := HLT.out; omega, by go_num, HTr.out⟩
              · have hje : j = k + 2 := by have := HJK.out; omega
                subst hje
                clear hlt
                have y1 : ¬ (((k + 2 : Nat) : Int) - 1 ≤ (k : Int)) := by omega
                go_wp2_with fail
                go_ret
                exact ⟨rfl, HT5.out.trans (HTr.out.below (Nat.le_trans HT5.out.size (Nat.le_refl _)) (fun _ _ e => e))⟩
      · exact absurd HOK.out hno
    · have HNO := Lib.hid hno
      have HT3 := Lib.hid ht3
      clear hno ht3 hks
      go_wp2_with fail
      refine (rnew_walk a len cap zs (HZ.out.turn (HT2.out.trans HT3.out (fun _ _ e => e))) H14.out.1 H14.out.2).mono ?_
      rintro e w4 (⟨hok, _⟩ | ⟨_, rfl, ht4⟩)
      · exact absurd hok HNO.out
      · have HT4 := Lib.hid ht4
        clear ht4
        go_wp2_with fail
        go_ret
        exact ⟨rfl, ((HT2.out.trans HT3.out (fun _ _ e => e)).trans HT4.out (fun _ _ e => e)).below (Nat.le_refl _) (fun _ _ e => e)⟩
  · have H14 := Lib.hid h14
    clear h14
    go_wp2_with fail
    refine (new_count A len c zs HL.out H14.out HM.out).mono ?_
    rintro e w3 (⟨hok, _⟩ | ⟨_, rfl, ht3⟩)
    · exact absurd (show 1 ≤ len ∧ len ≤ 4 from ⟨by have := hok.1; have := HL.out; omega, by have := hok.2.1; have := HL.out; omega⟩) H14.out
    · have HT3 := Lib.hid ht3
      clear ht3
      go_wp2_with fail
      refine (rnew_count a len cap H14.out HM.out).mono ?_
      rintro e w4 ⟨rfl, rfl⟩
      go_wp2_with fail
      go_ret
      exact ⟨rfl, (HT2.out.trans HT3.out (fun _ _ e => e)).below (Nat.le_refl _) (fun _ _ e => e)⟩
theorem ks_of_none (w : World) : Ks w nowhere none 0 [] := ⟨rfl, by omega, fun h => by omega⟩
theorem ks_of_ints {w : World} {x : Addr} {len cap : Nat} {zs : List Int} (hl : len ≤ cap) (hm : cap ≤ maxLen) (hz : zs.length = cap)
    (hcell : ∀ i, i < zs.length → w.cell? (x.add i) = some (.int .i64 (zs.getD i 0))) : Ks w nowhere (some x) len (zs.take len) := by
  refine ⟨by simp; omega, by unfold maxLen at hm; omega, fun hp => ?_⟩
  obtain ⟨b, off, spot⟩ := x
  have hc := hcell 0 (by omega)
  have hspot : spot = none := by simpa [Addr.add] using World.cell?_spot hc
  subst hspot
  refine ⟨b, off, rfl, ?_, fun e => e, fun i hi => ?_⟩
  · have := World.block_lt_of_cell? _ _ hc
    simpa [Addr.add] using this
  · have h := hcell i (by omega)
    rw [add_nat] at h
    rw [h, List.getD_eq_getElem?_getD, List.getD_eq_getElem?_getD, List.getElem?_take, if_pos hi]
end Go.Proofs.Ytaabiconfgcnfaa
