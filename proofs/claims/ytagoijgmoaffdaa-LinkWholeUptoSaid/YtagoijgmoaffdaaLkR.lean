/-
  groatlaw06's LinkWhole, walked. Condition: each piece, their number, and that of the cuts, is at most 2^20.
-/
import Derived.Test.YtagoijgmoaffdaaLkW
namespace Go.Proofs.Ytagoijgmoaffdaa
open Go.RowKit
open Lkk
set_option linter.unusedVariables false
set_option linter.unusedSimpArgs false
/-- ints of an argument -/
def Ks (w : World) (F : Nat → Prop) (A : Option Addr) (n : Nat) (zs : List Int) : Prop := zs.length = n ∧ (0 < n → ∃ b off, A = some ⟨b, off, none⟩ ∧ ∀ i, i < n → w.cell? ⟨b, off + i, none⟩ = some (.int .i64 (zs.getD i 0)))
theorem ks_of_none (w : World) : Ks w nowhere none 0 [] := ⟨rfl, fun h => by omega⟩
theorem ks_of_ints {w : World} {x : Addr} {len cap : Nat} {zs : List Int} (hl : len ≤ cap) (hm : cap ≤ maxLen) (hz : zs.length = cap)
    (hcell : ∀ i, i < zs.length → w.cell? (x.add i) = some (.int .i64 (zs.getD i 0))) : Ks w nowhere (some x) len (zs.take len) := by
  refine ⟨by simp; omega, fun hp => ?_⟩
  obtain ⟨b, off, spot⟩ := x
  have hc := hcell 0 (by omega)
  have hspot : spot = none := by simpa [Addr.add] using World.cell?_spot hc
  subst hspot
  refine ⟨b, off, rfl, fun i hi => ?_⟩
  have h := hcell i (by omega)
  rw [add_nat] at h
  rw [h, List.getD_eq_getElem?_getD, List.getD_eq_getElem?_getD, List.getElem?_take, if_pos hi]
theorem Ks.still {w w' : World} {A : Option Addr} {n : Nat} {zs : List Int} (h : Ks w nowhere A n zs) (ht : Turn nowhere w w') : Ks w' nowhere A n zs := by
  obtain ⟨h1, h2⟩ := h
  refine ⟨h1, fun hp => ?_⟩
  obtain ⟨b, off, e, hc⟩ := h2 hp
  exact ⟨b, off, e, fun i hi => by rw [ht.cell (World.block_lt_of_cell? _ _ (hc i hi)) (fun e => e)]; exact hc i hi⟩
/-- frames that were there, in a row of the call's own -/
def Fro (w : World) (B : Nat) (v : Value) (fs : List (List UInt8)) : Prop := ∃ vals : List Value, w.ownsRow 0 22 1 v fs.length vals ∧ (∀ k, ob v k → B ≤ k) ∧ ∀ (i : Nat) (u : Value), vals[i]? = some u → ∃ f, fs[i]? = some f ∧ ∃ b off n c, u = .slice (some ⟨b, off, none⟩) n c ∧ 0 < n ∧ Bs w (some ⟨b, off, none⟩) n f ∧ b < B
theorem Fro.turn {w w' : World} {B : Nat} {v : Value} {fs : List (List UInt8)} {F : Nat → Prop} (h : Fro w B v fs) (ht : Turn F w w') (hB : ∀ k, F k → B ≤ k) (ha : apart (ob v) F) : Fro w' B v fs := by
  obtain ⟨vals, h1, h2, h3⟩ := h
  refine ⟨vals, ownsRow_turn h1 ht ha, h2, fun i u hi => ?_⟩
  obtain ⟨f, hf, b, off, n, c, e, q1, q2, q3⟩ := h3 i u hi
  exact ⟨f, hf, b, off, n, c, e, q1, q2.turn ht (fun b' off' s e1 _ _ hF => by injection e1 with e1; injection e1 with e1; subst e1; have := hB _ hF; omega), q3⟩
theorem Fro.still {w w' : World} {B : Nat} {v : Value} {fs : List (List UInt8)} (h : Fro w B v fs) (ht : Turn nowhere w w') : Fro w' B v fs := h.turn ht (fun _ e => e.elim) (fun _ _ e => e)
theorem Fro.lt {w : World} {B : Nat} {v : Value} {fs : List (List UInt8)} (h : Fro w B v fs) : ∀ k, ob v k → k < w.heap.size := fun k hk => by
  obtain ⟨vals, h1, _⟩ := h
  exact (h1.lt k hk).2
theorem Fro.new {w : World} {B : Nat} {v : Value} {fs : List (List UInt8)} (h : Fro w B v fs) : ∀ k, ob v k → B ≤ k := by
  obtain ⟨vals, _, h2, _⟩ := h
  exact h2
theorem Fro.frr {w : World} {B : Nat} {v : Value} {fs : List (List UInt8)} (h : Fro w B v fs) : Frr w (fun _ => True) v fs := by
  obtain ⟨vals, h1, h2, h3⟩ := h
  refine ⟨vals, h1, fun _ _ => trivial, fun i u hi => ?_⟩
  obtain ⟨f, hf, b, off, n, c, e, q1, q2, q3⟩ := h3 i u hi
  exact ⟨f, hf, b, off, n, c, e, q1, q2, trivial, fun e => by have := h2 b e; omega⟩
theorem fro_more {w : World} {B : Nat} {v : Value} {fs : List (List UInt8)} (h : Fro w B v fs) {b off n c : Nat} {f : List UInt8} (hn : 0 < n) (hb : Bs w (some ⟨b, off, none⟩) n f) (hB : b < B) (hBw : B ≤ w.heap.size) (hm : (fs.length + 1) * 24 ≤ 140737488355328) {ty : TypeId} :
    ∃ A c' w', (Builtin.append_ #[28, 28] ty #[v, .slice (some ⟨w.heap.size, 0, none⟩) 1 1]).run Try.prog (w.alloc (.cells #[.slice (some ⟨b, off, none⟩) n c] 22)) = .ok (.slice A (fs.length + 1) c') w' ∧ Fro w' B (.slice A (fs.length + 1) c') (fs ++ [f]) ∧ Ext w w' v (.slice A (fs.length + 1) c') := by
  obtain ⟨vals, h1, h2, h3⟩ := h
  have hvl : vals.length = fs.length := by rw [h1.1, Nat.mul_one]
  obtain ⟨A', c', w', g1, g2, g3⟩ := append_row (ty := ty) (w := w.alloc (.cells #[.slice (some ⟨b, off, none⟩) n c] 22)) (c := 1) Try.underlying28 sliceInfo rfl (news := [.slice (some ⟨b, off, none⟩) n c]) (m := 1) (A := ⟨w.heap.size, 0, none⟩) (h1.alloc _) rfl (fun j u hj => by
      have hj0 : j = 0 := by
        have := (List.getElem?_eq_some_iff.1 hj).1
        simpa using this
      subst hj0
      rw [add_nat, (Blk.new w 22 #[.slice (some ⟨b, off, none⟩) n c]).cell]
      exact hj) (fun u hu => by
      have : u = .slice (some ⟨b, off, none⟩) n c := by simpa using hu
      subst this
      rfl) hm (by unfold maxLen; omega)
  have ht : Ext w w' v (.slice A' (fs.length + 1) c') := ⟨((Turn.refl _ w).alloc _).trans g3.tr fun _ _ e => e, fun b hb hlt => g3.sub b hb (by simp; omega)⟩
  have keep : ∀ {b off n : Nat} {f : List UInt8}, Bs w (some ⟨b, off, none⟩) n f → b < B → Bs w' (some ⟨b, off, none⟩) n f := fun hb' hlt => hb'.turn ht.tr (fun b' off' s e1 _ _ e => by injection e1 with e1; injection e1 with e1; subst e1; have := h2 _ (Eq.symm e); omega)
  refine ⟨A', c', w', g1, ⟨vals ++ [.slice (some ⟨b, off, none⟩) n c], by rw [List.length_append]; exact g2, ext_newb ht hBw h2, fun i u hi => ?_⟩, ht⟩
  by_cases hil : i < vals.length
  · rw [List.getElem?_append_left hil] at hi
    obtain ⟨f', hf', b', off', n', c'', e, q1, q2, q3⟩ := h3 i u hi
    exact ⟨f', by rw [List.getElem?_append_left (by omega)]; exact hf', b', off', n', c'', e, q1, keep q2 q3, q3⟩
  · rw [List.getElem?_append_right (by omega)] at hi
    have hi0 : i - vals.length = 0 := by
      have := (List.getElem?_eq_some_iff.1 hi).1
      simpa using this
    rw [hi0] at hi
    have : .slice (some ⟨b, off, none⟩) n c = u := by simpa using hi
    subst this
    exact ⟨f, by rw [List.getElem?_append_right (by omega), show i - fs.length = 0 from by omega]; rfl, b, off, n, c, rfl, hn, keep hb hB, hB⟩
theorem fro_empty (w : World) {B : Nat} (hB : B ≤ w.heap.size) : Fro (w.alloc (.cells #[] 22)) B (.slice (some ⟨w.heap.size, 0, none⟩) 0 0) [] :=
  ⟨[], World.ownsRow_made w #[] 0 (Nat.zero_le _) (Nat.zero_le _) rfl, fun k hk => by
    have : w.heap.size = k := Option.some.inj hk
    omega, fun i u h => by cases h⟩
theorem whole_start (l : List (List UInt8)) (h : Right l) : feed ([] ++ pks l) = ⟨l, [], true⟩ := by
  have := feed_pks l [] h
  rw [List.append_nil] at this
  rw [List.nil_append, this, feed_few (by simp)]
  simp [Sp.pre]
theorem whole_ok {a b : List UInt8} (h : (feed (a ++ b)).ok = true) : (feed a).ok = true := by
  cases h1 : (feed a).ok with
  | true => rfl
  | false =>
    rw [feed_err b a h1] at h
    cases h

set_option maxRecDepth 20000 in
set_option maxHeartbeats 8000000 in
theorem linkWhole_walk (A1 : Option Addr) (n1 c1 : Nat) (ls : List (List UInt8)) (A2 : Option Addr) (n2 c2 : Nat) (zs : List Int) (W : World) (hls : Ls W A1 n1 ls) (hks : Ks W nowhere A2 n2 zs) (hnc : n2 ≤ 1048576) :
    Calls Try.prog 5 #[.slice A1 n1 c1, .slice A2 n2 c2] W fun e w' => e = .returned (.bool true) ∧ Below W.heap.size W w' := by
  have HLS := Lib.hid hls
  have HKS := Lib.hid hks
  have HNC := Lib.hid hnc
  have HN1 := Lib.hid hls.2.1
  have HE0 := Lib.hid (show ec true = 0 from rfl)
  have HE1 := Lib.hid (show ec false = 60 from rfl)
  clear hls hks hnc
  go_enter Try.func5, Try.ntmps5
  go_upto_region 2 with (go_at_call 9; refine (shown_walk _).mono ?_; rintro e w1 ⟨rfl, ht1⟩)
  have HT1 := Lib.hid ht1
  clear ht1
  go_upto_region 5 with (go_at_call 12; refine (newL_walk _).mono ?_; rintro e w2 ⟨p, rfl, hL2, ht2, hp⟩)
  have HX := Lib.hid (lkn_new (B := W.heap.size) hL2 (Nat.le_trans HT1.out.size hp))
  have HT2 := Lib.hid (HT1.out.trans ht2 (fun _ _ e => e))
  clear hL2 ht2 hp HT1
  refine wp_region_lit ?_
  refine wpList_run (v := .slice (some ⟨w2.heap.size, 0, none⟩) 0 0) (w' := w2.alloc (.cells #[] 5)) rfl (exec_buildNone rfl (build_noneB _)) ?_
  simp only [Act.put, List.setIfInBounds_toArray, List.set_cons_zero, List.set_cons_succ]

  have ht3 := (Turn.refl nowhere w2).alloc (.cells #[] 5)
  have HA := Lib.hid (Own.empty w2 0 5 (Nat.zero_le _))
  have HAN := Lib.hid (show ∀ k, ob (.slice (some ⟨w2.heap.size, 0, none⟩) 0 0) k → W.heap.size ≤ k from fun k hk => Nat.le_trans HT2.out.size (own_emptyN w2 k hk))
  have HXA := Lib.hid (apart_new (v := .slice (some ⟨w2.heap.size, 0, none⟩) 0 0) HX.out.lk.lt (own_emptyN w2))
  have HX := Lib.hid (HX.out.still ht3)
  have HT3 := Lib.hid (HT2.out.trans ht3 (fun _ _ e => e))
  clear ht3
  generalize hva : Value.slice (some ⟨w2.heap.size, 0, none⟩) 0 0 = va at *
  generalize World.alloc w2 (.cells #[] 5) = w3 at *
  clear hva HT2
  go_upto_region 6 with fail
  refine wp_region_lit ?_
  refine wpList_run (v := .slice (some ⟨w3.heap.size, 0, none⟩) 0 0) (w' := w3.alloc (.cells #[] 22)) rfl (exec_buildNone rfl (build_noneF _)) ?_
  simp only [Act.put, List.setIfInBounds_toArray, List.set_cons_zero, List.set_cons_succ]

  have ht4 := (Turn.refl nowhere w3).alloc (.cells #[] 22)
  have HD := Lib.hid (fro_empty w3 HT3.out.size)
  have HXD := Lib.hid (apart_new (v := .slice (some ⟨w3.heap.size, 0, none⟩) 0 0) HX.out.lk.lt (own_emptyN w3))
  have HAD := Lib.hid (apart_new (v := .slice (some ⟨w3.heap.size, 0, none⟩) 0 0) (ob_lt HA.out) (own_emptyN w3))
  have HX := Lib.hid (HX.out.still ht4)
  have HA := Lib.hid (HA.out.turn ht4 (fun _ _ e => e))
  have HT4 := Lib.hid (HT3.out.trans ht4 (fun _ _ e => e))
  clear ht4
  generalize hvd : Value.slice (some ⟨w3.heap.size, 0, none⟩) 0 0 = vd at *
  generalize World.alloc w3 (.cells #[] 22) = w4 at *
  clear hvd HT3
  go_wp2_with fail
  go_loopg [7, 8, 9, 10, 11] n1 (fun gk va vd iv x10 x11 wr => ∃ (k : Nat) (WT : List (List UInt8)), k + gk = n1 ∧ iv = .int .i64 (k : Int) ∧ Own wr 0 5 va (pks WT) ∧ Fro wr W.heap.size vd WT ∧ LkN W.heap.size wr p (.slice none 0 0) [] ∧ apart (ob va) (ob vd) ∧ apart (foot p (.slice none 0 0)) (ob va) ∧ apart (foot p (.slice none 0 0)) (ob vd) ∧ (∀ k, ob va k → W.heap.size ≤ k) ∧
    Right WT ∧ WT.length ≤ k ∧ (pks WT).length ≤ k * 514 ∧ Turn nowhere W wr)
  case atStart => exact ⟨0, [], by omega, rfl, HA.out, HD.out, HX.out, HAD.out, HXA.out, HXD.out, HAN.out, (fun f hf => by cases hf), by simp, by simp [pks], HT4.out⟩
  clear HA HD HX HAD HXA HXD HAN HT4
  obtain ⟨k, WT, hkl, rfl, hA, hD, hX, hAD, hXA, hXD, hAN, hrt, hwl, hsz, htr⟩ := hrel
  have HKL := Lib.hid hkl
  have HA := Lib.hid hA
  have HD := Lib.hid hD
  have HX := Lib.hid hX
  have HAD := Lib.hid hAD
  have HXA := Lib.hid hXA
  have HXD := Lib.hid hXD
  have HAN := Lib.hid hAN
  have HRT := Lib.hid hrt
  have HWL := Lib.hid hwl
  have HSZ := Lib.hid hsz
  have HTR := Lib.hid htr
  clear hkl hA hD hX hAD hXA hXD hAN hrt hwl hsz htr
  by_cases hk1 : k < n1
  · have y1 : (k : Int) < (n1 : Int) := by omega
    have y0 : (n1 : Int) ≤ 1048576 := by have := HN1.out; omega
    obtain ⟨lb, lo, la, lm, lc, lv, rfl, hlv, hcell, hlb, hlc, hlm⟩ := (HLS.out.still HTR.out).at_ hk1
    have HK1 := Lib.hid hk1
    have HLB := Lib.hid hlb
    have HLM := Lib.hid hlm
    have HOLD := Lib.hid (show ∀ b off s, la = some ⟨b, off, s⟩ → 0 < lm → b < W.heap.size from fun b off s e hp => by
      obtain ⟨lb', lo', la', lm', lc', lv', elb, hlv', hcell', hlb', hlc', hlm'⟩ := HLS.out.at_ hk1
      have e1 : lb = lb' ∧ lo = lo' := by injection elb with e; injection e with e1 e2; exact ⟨e1, e2⟩
      have hc2 : wr.cell? ⟨lb, lo + k, none⟩ = some (.slice la' lm' lc') := by
        rw [e1.1, e1.2]
        rw [HTR.out.cell (World.block_lt_of_cell? _ _ hcell') (fun e => e)]
        exact hcell'
      rw [hcell] at hc2
      injection hc2 with hc2
      injection hc2 with q1 q2 q3
      subst q1 q2 q3
      obtain ⟨b2, o2, e2, hcc⟩ := hlb'.2.2 hp
      rw [e] at e2
      injection e2 with e2
      injection e2 with e2 _ _
      subst e2
      exact World.block_lt_of_cell? _ _ (hcc 0 hp))
    have hpw := pack_walk hlb hlc (by omega)
    have HPW := Lib.hid hpw
    clear hk1 hlb hlc hlm hlv hpw
    go_upto_region 10 with fail
    refine wp_region_lit ?_
    refine wpList_run (v := .slice (some ⟨lb, lo, none⟩) n1 c1) rfl (exec_move rfl rfl) ?_
    simp only [Act.put, List.setIfInBounds_toArray, List.set_cons_zero, List.set_cons_succ]
    refine wpList_run (v := .int .i64 (k : Int)) rfl (exec_move rfl rfl) ?_
    simp only [Act.put, List.setIfInBounds_toArray, List.set_cons_zero, List.set_cons_succ]
    refine wpList_run (v := .pointer (some ⟨lb, lo + k, none⟩)) rfl (gx_iaddr (i := k) (sz := 1) rfl rfl rfl Try.underlying28 (by kernel_rfl) HK1.out (by omega)) ?_
    simp only [Act.put, List.setIfInBounds_toArray, List.set_cons_zero, List.set_cons_succ]
    refine wpList_run (v := .slice la lm lc) rfl (lx_sl rfl rfl hcell) ?_
    simp only [Act.put, List.setIfInBounds_toArray, List.set_cons_zero, List.set_cons_succ]

    go_wp2_with fail
    refine HPW.out.mono ?_
    rintro e w5 ⟨v5, rfl, ho5, ht5, hn5⟩
    simp only [Act.put, List.setIfInBounds_toArray, List.set_cons_zero, List.set_cons_succ]
    rename_i K5 hK5
    refine hK5 _ _ ?_
    clear hK5 K5

    obtain ⟨A5, c5, rfl⟩ := own_form ho5
    have HO5 := Lib.hid ho5
    have hcell5 : w5.cell? ⟨lb, lo + k, none⟩ = some (.slice la lm lc) := by
      rw [ht5.cell (World.block_lt_of_cell? _ _ hcell) (fun e => e)]
      exact hcell
    have HA := Lib.hid (HA.out.turn ht5 (fun _ _ e => e))
    have HD := Lib.hid (HD.out.still ht5)
    have HX := Lib.hid (HX.out.still ht5)
    have HTR := Lib.hid (HTR.out.trans ht5 (fun _ _ e => e))
    have HLB := Lib.hid (HLB.out.still ht5)
    clear ho5 ht5 hn5 HPW hcell
    have hlen : lv.length = lm := HLB.out.1
    cases hok : okL lv with
    | false =>
      have hno : ¬ (1 ≤ lv.length ∧ lv.length ≤ 512) := of_decide_eq_false hok
      rw [hlen] at hno
      simp only [HE1.out]
      generalize (pkd lv).length = n5 at *
      by_cases hp : 1 ≤ lm
      · have y2 : (0 : Int) < (lm : Int) := by omega
        have y3 : ¬ ((lm : Int) ≤ 512) := by omega
        clear hno hp hlen hok
        go_upto_region 11 with fail
        refine wp_region_lit ?_
        refine wpList_run (v := .int .i64 60) rfl (exec_move rfl rfl) ?_
        simp only [Act.put, List.setIfInBounds_toArray, List.set_cons_zero, List.set_cons_succ]
        refine wpList_run (v := .bool false) rfl (ix_eql rfl rfl rfl (by decide)) ?_
        simp only [Act.put, List.setIfInBounds_toArray, List.set_cons_zero, List.set_cons_succ]
        refine wpList_run (v := .slice (some ⟨lb, lo, none⟩) n1 c1) rfl (exec_move rfl rfl) ?_
        simp only [Act.put, List.setIfInBounds_toArray, List.set_cons_zero, List.set_cons_succ]
        refine wpList_run (v := .int .i64 (k : Int)) rfl (exec_move rfl rfl) ?_
        simp only [Act.put, List.setIfInBounds_toArray, List.set_cons_zero, List.set_cons_succ]
        refine wpList_run (v := .pointer (some ⟨lb, lo + k, none⟩)) rfl (gx_iaddr (i := k) (sz := 1) rfl rfl rfl Try.underlying28 (by kernel_rfl) HK1.out (by omega)) ?_
        simp only [Act.put, List.setIfInBounds_toArray, List.set_cons_zero, List.set_cons_succ]
        refine wpList_run (v := .slice la lm lc) rfl (lx_sl rfl rfl hcell5) ?_
        simp only [Act.put, List.setIfInBounds_toArray, List.set_cons_zero, List.set_cons_succ]
        refine wpList_run (v := .int .i64 (lm : Int)) rfl (lx_blen rfl rfl) ?_
        simp only [Act.put, List.setIfInBounds_toArray, List.set_cons_zero, List.set_cons_succ]
        refine wpList_run (v := .bool true) rfl (ix_gtr rfl rfl rfl (decide_eq_true y2)) ?_
        simp only [Act.put, List.setIfInBounds_toArray, List.set_cons_zero, List.set_cons_succ]
        refine wpList_run (v := .bool true) rfl (exec_move rfl rfl) ?_
        simp only [Act.put, List.setIfInBounds_toArray, List.set_cons_zero, List.set_cons_succ]
        refine wpList_run (v := .slice (some ⟨lb, lo, none⟩) n1 c1) rfl (exec_move rfl rfl) ?_
        simp only [Act.put, List.setIfInBounds_toArray, List.set_cons_zero, List.set_cons_succ]
        refine wpList_run (v := .int .i64 (k : Int)) rfl (exec_move rfl rfl) ?_
        simp only [Act.put, List.setIfInBounds_toArray, List.set_cons_zero, List.set_cons_succ]
        refine wpList_run (v := .pointer (some ⟨lb, lo + k, none⟩)) rfl (gx_iaddr (i := k) (sz := 1) rfl rfl rfl Try.underlying28 (by kernel_rfl) HK1.out (by omega)) ?_
        simp only [Act.put, List.setIfInBounds_toArray, List.set_cons_zero, List.set_cons_succ]
        refine wpList_run (v := .slice la lm lc) rfl (lx_sl rfl rfl hcell5) ?_
        simp only [Act.put, List.setIfInBounds_toArray, List.set_cons_zero, List.set_cons_succ]
        refine wpList_run (v := .int .i64 (lm : Int)) rfl (lx_blen rfl rfl) ?_
        simp only [Act.put, List.setIfInBounds_toArray, List.set_cons_zero, List.set_cons_succ]
        refine wpList_run (v := .bool false) rfl (ix_leq rfl rfl rfl (decide_eq_false y3)) ?_
        simp only [Act.put, List.setIfInBounds_toArray, List.set_cons_zero, List.set_cons_succ]
        refine wpList_run (v := .bool false) rfl (ix_pickT rfl rfl rfl) ?_
        simp only [Act.put, List.setIfInBounds_toArray, List.set_cons_zero, List.set_cons_succ]
        refine wpList_run (v := .bool false) (w' := w5) rfl (by go_simp) ?_
        simp only [Act.put, List.setIfInBounds_toArray, List.set_cons_zero, List.set_cons_succ]

        clear hcell5
        go_wp2_with fail
        go_roundg (gk - 1)
        case measure => have := HKL.out; have := HK1.out; omega
        case rel => exact ⟨k + 1, WT, by have := HKL.out; have := HK1.out; omega, by go_num, HA.out, HD.out, HX.out, HAD.out, HXA.out, HXD.out, HAN.out, HRT.out, by have := HWL.out; omega, by have := HSZ.out; omega, HTR.out⟩

      · have y2 : ¬ ((0 : Int) < (lm : Int)) := by omega
        clear hno hp hlen hok
        go_upto_region 11 with fail
        refine wp_region_lit ?_
        refine wpList_run (v := .int .i64 60) rfl (exec_move rfl rfl) ?_
        simp only [Act.put, List.setIfInBounds_toArray, List.set_cons_zero, List.set_cons_succ]
        refine wpList_run (v := .bool false) rfl (ix_eql rfl rfl rfl (by decide)) ?_
        simp only [Act.put, List.setIfInBounds_toArray, List.set_cons_zero, List.set_cons_succ]
        refine wpList_run (v := .slice (some ⟨lb, lo, none⟩) n1 c1) rfl (exec_move rfl rfl) ?_
        simp only [Act.put, List.setIfInBounds_toArray, List.set_cons_zero, List.set_cons_succ]
        refine wpList_run (v := .int .i64 (k : Int)) rfl (exec_move rfl rfl) ?_
        simp only [Act.put, List.setIfInBounds_toArray, List.set_cons_zero, List.set_cons_succ]
        refine wpList_run (v := .pointer (some ⟨lb, lo + k, none⟩)) rfl (gx_iaddr (i := k) (sz := 1) rfl rfl rfl Try.underlying28 (by kernel_rfl) HK1.out (by omega)) ?_
        simp only [Act.put, List.setIfInBounds_toArray, List.set_cons_zero, List.set_cons_succ]
        refine wpList_run (v := .slice la lm lc) rfl (lx_sl rfl rfl hcell5) ?_
        simp only [Act.put, List.setIfInBounds_toArray, List.set_cons_zero, List.set_cons_succ]
        refine wpList_run (v := .int .i64 (lm : Int)) rfl (lx_blen rfl rfl) ?_
        simp only [Act.put, List.setIfInBounds_toArray, List.set_cons_zero, List.set_cons_succ]
        refine wpList_run (v := .bool false) rfl (ix_gtr rfl rfl rfl (decide_eq_false y2)) ?_
        simp only [Act.put, List.setIfInBounds_toArray, List.set_cons_zero, List.set_cons_succ]
        refine wpList_run (v := .bool false) rfl (exec_move rfl rfl) ?_
        simp only [Act.put, List.setIfInBounds_toArray, List.set_cons_zero, List.set_cons_succ]

        clear hcell5
        go_wp2_with fail
        go_roundg (gk - 1)
        case measure => have := HKL.out; have := HK1.out; omega
        case rel => exact ⟨k + 1, WT, by have := HKL.out; have := HK1.out; omega, by go_num, HA.out, HD.out, HX.out, HAD.out, HXA.out, HXD.out, HAN.out, HRT.out, by have := HWL.out; omega, by have := HSZ.out; omega, HTR.out⟩

    | true =>
      have hyes : 1 ≤ lv.length ∧ lv.length ≤ 512 := of_decide_eq_true hok
      have HYES := Lib.hid hyes
      rw [hlen] at hyes
      have hpk : pkd lv = pk lv := by unfold pkd; rw [if_pos hok]
      rw [hpk] at HO5 ⊢
      simp only [HE0.out]
      have y2 : (0 : Int) < (lm : Int) := by omega
      have y3 : (lm : Int) ≤ 512 := by omega
      have hla : ∃ b off, la = some ⟨b, off, none⟩ := by
        obtain ⟨b, off, e, _⟩ := HLB.out.2.2 (by omega)
        exact ⟨b, off, e⟩
      obtain ⟨b, off, rfl⟩ := hla
      have hbw := HOLD.out b off none rfl (by omega)
      obtain ⟨A6, c6, w6, hrun6, hA6, hext6⟩ := append_src (ty := 22) HA.out HO5.out.bs.1 HO5.out.bs.2.2 (by have := HSZ.out; have := HN1.out; have := HK1.out; rw [pk_len]; omega)
      obtain ⟨Aa, ca, rfl⟩ := own_form HA.out
      have HRUN6 := Lib.hid hrun6
      have HA6 := Lib.hid (show Own w6 0 5 _ (pks (WT ++ [lv])) from by rw [pks_append, show pks [lv] = pk lv from by simp [pks]]; exact hA6)
      have HD6 := Lib.hid (HD.out.turn hext6.tr (fun j hj => HAN.out j (Eq.symm hj)) (fun j hj e => HAD.out j (Eq.symm e) hj))
      have HX6 := Lib.hid (ext_lkn HX.out hext6 HXA.out)
      have HAD6 := Lib.hid (ext_apart hext6 HD.out.lt HAD.out.symm).symm
      have HXA6 := Lib.hid (ext_apart hext6 HX.out.lk.lt HXA.out)
      have HAN6 := Lib.hid (ext_newb hext6 HTR.out.size HAN.out)
      have HT6 := Lib.hid (ext_turn HTR.out hext6 HAN.out)
      have HLB6 := Lib.hid (HLB.out.turn hext6.tr (fun b' off' s e1 _ _ e => by injection e1 with e1; injection e1 with e1; subst e1; have := HAN.out _ (Eq.symm e); omega))
      have hcell6 : w6.cell? ⟨lb, lo + k, none⟩ = some (.slice (some ⟨b, off, none⟩) lm lc) := by
        obtain ⟨lb', lo', la', lm', lc', lv', elb, hlv', hcell', hlb', hlc', hlm'⟩ := HLS.out.at_ HK1.out
        have e1 : lb = lb' ∧ lo = lo' := by injection elb with e; injection e with e1 e2; exact ⟨e1, e2⟩
        have hlt := World.block_lt_of_cell? _ _ hcell'
        have h5 := HTR.out.cell hlt (fun e => e)
        have h6 := HT6.out.cell hlt (fun e => e)
        rw [e1.1, e1.2, h6, ← h5, ← e1.1, ← e1.2]
        exact hcell5
      obtain ⟨A7, c7, w7, hrun7, hD7, hext7⟩ := fro_more (ty := 28) (c := lc) HD6.out (by omega) HLB6.out hbw HT6.out.size (by have := HWL.out; have := HN1.out; have := HK1.out; omega)
      obtain ⟨Ad, cd, hvd⟩ : ∃ Ad cd, u8 = .slice Ad WT.length cd := by
        obtain ⟨vals, h1, _⟩ := HD6.out
        exact own_form h1
      subst hvd
      obtain ⟨i0, hi0, hz0, hz1, hz2⟩ := info_parts sliceInfo
      have hbuild := run_buildSlice_one (P := Try.prog) (v := Value.slice (some ⟨b, off, none⟩) lm lc) Try.underlying28 hi0 hz0 (by rw [hz1]; rfl) (by rw [hz1]; rfl) (by omega) (by omega) w6
      have HBU := Lib.hid hbuild
      have HRUN7 := Lib.hid hrun7
      have HD7 := Lib.hid hD7
      have HA7 := Lib.hid (ext_own HA6.out hext7 HAD6.out)
      have HX7 := Lib.hid (ext_lkn HX6.out hext7 HXD.out)
      have HAD7 := Lib.hid (ext_apart hext7 (ob_lt HA6.out) HAD6.out)
      have HXD7 := Lib.hid (ext_apart hext7 HX6.out.lk.lt HXD.out)
      have HT7 := Lib.hid (ext_turn HT6.out hext7 HD6.out.new)
      have HPL := Lib.hid (show (pks (WT ++ [lv])).length ≤ (k + 1) * 514 from by
        rw [pks_append, show pks [lv] = pk lv from by simp [pks], List.length_append, pk_len]
        have := HSZ.out
        have := HYES.out
        omega)
      have HRT7 := Lib.hid (show Right (WT ++ [lv]) from fun f hf => by
        rcases List.mem_append.1 hf with h | h
        · exact HRT.out f h
        · have : f = lv := by simpa using h
          subst this
          exact HYES.out)
      clear hrun6 hA6 hext6 hrun7 hext7 hbuild hi0 hz0 hz1 hz2 hyes hpk hok hlen hbw HO5 HA HD HX HAD HXA HXD HAN HTR HLB
      generalize (pks WT).length = na at *
      generalize (pk lv).length = nb at *
      generalize hnw : WT.length = nw at *
      have HNW := Lib.hid hnw
      clear hnw
      go_upto_region 11 with fail
      refine wp_region_lit ?_
      refine wpList_run (v := .int .i64 0) rfl (exec_move rfl rfl) ?_
      simp only [Act.put, List.setIfInBounds_toArray, List.set_cons_zero, List.set_cons_succ]
      refine wpList_run (v := .bool true) rfl (ix_eql rfl rfl rfl (by decide)) ?_
      simp only [Act.put, List.setIfInBounds_toArray, List.set_cons_zero, List.set_cons_succ]
      refine wpList_run (v := .slice (some ⟨lb, lo, none⟩) n1 c1) rfl (exec_move rfl rfl) ?_
      simp only [Act.put, List.setIfInBounds_toArray, List.set_cons_zero, List.set_cons_succ]
      refine wpList_run (v := .int .i64 (k : Int)) rfl (exec_move rfl rfl) ?_
      simp only [Act.put, List.setIfInBounds_toArray, List.set_cons_zero, List.set_cons_succ]
      refine wpList_run (v := .pointer (some ⟨lb, lo + k, none⟩)) rfl (gx_iaddr (i := k) (sz := 1) rfl rfl rfl Try.underlying28 (by kernel_rfl) HK1.out (by omega)) ?_
      simp only [Act.put, List.setIfInBounds_toArray, List.set_cons_zero, List.set_cons_succ]
      refine wpList_run (v := .slice (some ⟨b, off, none⟩) lm lc) rfl (lx_sl rfl rfl hcell5) ?_
      simp only [Act.put, List.setIfInBounds_toArray, List.set_cons_zero, List.set_cons_succ]
      refine wpList_run (v := .int .i64 (lm : Int)) rfl (lx_blen rfl rfl) ?_
      simp only [Act.put, List.setIfInBounds_toArray, List.set_cons_zero, List.set_cons_succ]
      refine wpList_run (v := .bool true) rfl (ix_gtr rfl rfl rfl (decide_eq_true y2)) ?_
      simp only [Act.put, List.setIfInBounds_toArray, List.set_cons_zero, List.set_cons_succ]
      refine wpList_run (v := .bool true) rfl (exec_move rfl rfl) ?_
      simp only [Act.put, List.setIfInBounds_toArray, List.set_cons_zero, List.set_cons_succ]
      refine wpList_run (v := .slice (some ⟨lb, lo, none⟩) n1 c1) rfl (exec_move rfl rfl) ?_
      simp only [Act.put, List.setIfInBounds_toArray, List.set_cons_zero, List.set_cons_succ]
      refine wpList_run (v := .int .i64 (k : Int)) rfl (exec_move rfl rfl) ?_
      simp only [Act.put, List.setIfInBounds_toArray, List.set_cons_zero, List.set_cons_succ]
      refine wpList_run (v := .pointer (some ⟨lb, lo + k, none⟩)) rfl (gx_iaddr (i := k) (sz := 1) rfl rfl rfl Try.underlying28 (by kernel_rfl) HK1.out (by omega)) ?_
      simp only [Act.put, List.setIfInBounds_toArray, List.set_cons_zero, List.set_cons_succ]
      refine wpList_run (v := .slice (some ⟨b, off, none⟩) lm lc) rfl (lx_sl rfl rfl hcell5) ?_
      simp only [Act.put, List.setIfInBounds_toArray, List.set_cons_zero, List.set_cons_succ]
      refine wpList_run (v := .int .i64 (lm : Int)) rfl (lx_blen rfl rfl) ?_
      simp only [Act.put, List.setIfInBounds_toArray, List.set_cons_zero, List.set_cons_succ]
      refine wpList_run (v := .bool true) rfl (ix_leq rfl rfl rfl (decide_eq_true y3)) ?_
      simp only [Act.put, List.setIfInBounds_toArray, List.set_cons_zero, List.set_cons_succ]
      refine wpList_run (v := .bool true) rfl (ix_pickT rfl rfl rfl) ?_
      simp only [Act.put, List.setIfInBounds_toArray, List.set_cons_zero, List.set_cons_succ]
      refine wpList_run (v := .bool false) (w' := w5) rfl (by go_simp) ?_
      simp only [Act.put, List.setIfInBounds_toArray, List.set_cons_zero, List.set_cons_succ]

      clear hcell5
      go_upto_region 14 with fail
      refine wp_region_lit ?_
      refine wpList_run (v := .slice Aa na ca) rfl (exec_move rfl rfl) ?_
      simp only [Act.put, List.setIfInBounds_toArray, List.set_cons_zero, List.set_cons_succ]
      refine wpList_run (v := .slice A5 nb c5) rfl (exec_move rfl rfl) ?_
      simp only [Act.put, List.setIfInBounds_toArray, List.set_cons_zero, List.set_cons_succ]
      refine wpList_run (v := .slice A6 (na + nb) c6) (w' := w6) rfl (exec_append rfl rfl rfl HRUN6.out) ?_
      simp only [Act.put, List.setIfInBounds_toArray, List.set_cons_zero, List.set_cons_succ]

      go_upto_region 15 with fail
      refine wp_region_lit ?_
      refine wpList_run (v := .slice Ad nw cd) rfl (exec_move rfl rfl) ?_
      simp only [Act.put, List.setIfInBounds_toArray, List.set_cons_zero, List.set_cons_succ]
      refine wpList_run (v := .slice (some ⟨lb, lo, none⟩) n1 c1) rfl (exec_move rfl rfl) ?_
      simp only [Act.put, List.setIfInBounds_toArray, List.set_cons_zero, List.set_cons_succ]
      refine wpList_run (v := .int .i64 (k : Int)) rfl (exec_move rfl rfl) ?_
      simp only [Act.put, List.setIfInBounds_toArray, List.set_cons_zero, List.set_cons_succ]
      refine wpList_run (v := .pointer (some ⟨lb, lo + k, none⟩)) rfl (gx_iaddr (i := k) (sz := 1) rfl rfl rfl Try.underlying28 (by kernel_rfl) HK1.out (by omega)) ?_
      simp only [Act.put, List.setIfInBounds_toArray, List.set_cons_zero, List.set_cons_succ]
      refine wpList_run (v := .slice (some ⟨b, off, none⟩) lm lc) rfl (lx_sl rfl rfl hcell6) ?_
      simp only [Act.put, List.setIfInBounds_toArray, List.set_cons_zero, List.set_cons_succ]
      refine wpList_run (v := .slice (some ⟨w6.heap.size, 0, none⟩) 1 1) (w' := w6.alloc (.cells (Value.slice (some ⟨b, off, none⟩) lm lc).cells 22)) rfl (exec_buildSlice1 rfl rfl HBU.out) ?_
      simp only [Act.put, List.setIfInBounds_toArray, List.set_cons_zero, List.set_cons_succ]
      refine wpList_run (v := .slice A7 (nw + 1) c7) (w' := w7) rfl (exec_append rfl rfl rfl HRUN7.out) ?_
      simp only [Act.put, List.setIfInBounds_toArray, List.set_cons_zero, List.set_cons_succ]

      clear hcell6 HRUN6 HRUN7 HBU
      go_wp2_with fail
      go_roundg (gk - 1)
      case measure => have := HKL.out; have := HK1.out; omega
      case rel => exact ⟨k + 1, WT ++ [lv], by have := HKL.out; have := HK1.out; omega, by go_num, HA7.out, HD7.out, HX7.out, HAD7.out, HXA6.out, HXD7.out, HAN6.out, HRT7.out, by rw [List.length_append, HNW.out]; have := HWL.out; simp; omega, HPL.out, HT7.out⟩

  · have y1 : ¬ ((k : Int) < (n1 : Int)) := by omega
    have hkn : k ≤ 1048576 := by have := HKL.out; have := HN1.out; omega
    have HKN := Lib.hid hkn
    clear hk1 hkn
    go_upto_region 16 with fail
    refine wp_region_lit ?_
    refine wpList_run (v := .slice (some ⟨wr.heap.size, 0, none⟩) 0 0) (w' := wr.alloc (.cells #[] 22)) rfl (exec_buildNone rfl (build_noneF _)) ?_
    simp only [Act.put, List.setIfInBounds_toArray, List.set_cons_zero, List.set_cons_succ]

    have ht5 := (Turn.refl nowhere wr).alloc (.cells #[] 22)
    have HG := Lib.hid (Frr.empty wr (fun k => ¬ foot p (.slice none 0 0) k) (fun e => by have := HX.out.lk.lt _ e; omega))
    have HGN := Lib.hid (show ∀ k, ob (.slice (some ⟨wr.heap.size, 0, none⟩) 0 0) k → W.heap.size ≤ k from fun k hk => Nat.le_trans HTR.out.size (own_emptyN wr k hk))
    have HOL := Lib.hid (show ∀ k, (ob u7 k ∨ ob u8 k) → k < wr.heap.size from fun k hk => by
      rcases hk with h | h
      · exact ob_lt HA.out k h
      · exact HD.out.lt k h)
    have HOX := Lib.hid (show apart (fun k => ob u7 k ∨ ob u8 k) (foot p (.slice none 0 0)) from fun k hk e => by
      rcases hk with h | h
      · exact HXA.out k e h
      · exact HXD.out k e h)
    have HOG := Lib.hid (apart_new (v := .slice (some ⟨wr.heap.size, 0, none⟩) 0 0) HOL.out (own_emptyN wr))
    have hal := HA.out
    obtain ⟨Ar, cr, hvall⟩ := own_form hal
    rw [hvall] at hal
    have HAB := Lib.hid (show ∀ k, own_of Ar k → ob u7 k from fun k hk => by rw [hvall]; exact own_block hal hk)
    have HBS := Lib.hid ((hal.turn ht5 (fun _ _ e => e)).bs)
    have HX := Lib.hid (HX.out.still ht5)
    have HD := Lib.hid (HD.out.still ht5)
    have HT5 := Lib.hid (HTR.out.trans ht5 (fun _ _ e => e))
    have HOL := Lib.hid (show ∀ k, (ob u7 k ∨ ob u8 k) → k < (wr.alloc (.cells #[] 22)).heap.size from fun k hk => Nat.lt_of_lt_of_le (HOL.out k hk) ht5.size)
    have HWS := Lib.hid (whole_start WT HRT.out)
    have HWL2 := Lib.hid (show WT.length ≤ 1048576 from by have := HWL.out; have := HKN.out; omega)
    have HNA := Lib.hid (show (pks WT).length ≤ 538968064 from by have := HSZ.out; have := HKN.out; omega)
    generalize hO : (fun k => ob u7 k ∨ ob u8 k) = O at *
    have HO1 := Lib.hid (show ∀ k, ob u7 k → O k from fun k hk => by rw [← hO]; exact .inl hk)
    have HO2 := Lib.hid (show ∀ k, ob u8 k → O k from fun k hk => by rw [← hO]; exact .inr hk)
    have HOLO := Lib.hid (show ∀ k, O k → k < (wr.alloc (.cells #[] 22)).heap.size from fun k hk => HOL.out k (by rw [← hO] at hk; exact hk))
    clear hO HA HAD HXA HXD HAN HRT HSZ HTR HWL ht5 hal
    subst hvall
    generalize (pks WT).length = n0 at *
    generalize hvg : Value.slice (some ⟨wr.heap.size, 0, none⟩) 0 0 = vg at *
    generalize World.alloc wr (.cells #[] 22) = w5 at *
    clear hvg
    obtain ⟨vd, hvd⟩ : ∃ vd, vd = u8 := ⟨_, rfl⟩
    have HVD := Lib.hid hvd
    clear hvd
    go_upto_region 17 with fail
    go_wp2_with fail
    go_loopg [7, 12, 13, 14, 15, 16] (if n0 = 0 then 0 else n2 + 1) (fun gk vall vg iv x14 x15 x16 wr => ∃ (k : Nat) (vx : Value) (h rem : List UInt8) (GOT : List (List UInt8)) (Ar : Option Addr) (nr cr : Nat), iv = .int .i64 (k : Int) ∧ vall = .slice Ar nr cr ∧ gk = (if nr = 0 then 0 else n2 - k + 1) ∧ Bs wr Ar nr rem ∧ nr ≤ cr ∧ (Ar = none → cr = 0) ∧ (∀ j, own_of Ar j → O j) ∧
      LkN W.heap.size wr p vx h ∧ Waits h ∧ Frr wr (fun j => ¬ foot p vx j) vg GOT ∧ (∀ j, ob vg j → W.heap.size ≤ j) ∧ Fro wr W.heap.size vd WT ∧ apart O (foot p vx) ∧ apart O (ob vg) ∧ (∀ j, O j → j < wr.heap.size) ∧ Turn nowhere W wr ∧
      (feed (h ++ rem)).ok = true ∧ GOT ++ (feed (h ++ rem)).fs = WT ∧ (feed (h ++ rem)).rest = [] ∧ nr ≤ 538968064 ∧ (nr = 0 ∨ k ≤ n2) ∧ k ≤ n2 + 1)
    case atStart =>
      refine ⟨0, _, [], pks WT, [], Ar, n0, cr, rfl, rfl, by simp, HBS.out.1, HBS.out.2.1, HBS.out.2.2, fun j hj => HO1.out j (HAB.out j hj), HX.out, waits_nil, HG.out, HGN.out, by rw [HVD.out]; exact HD.out, HOX.out, HOG.out, HOLO.out, HT5.out, ?_, ?_, ?_, HNA.out, .inr (Nat.zero_le _), by omega⟩
      · rw [HWS.out]
      · rw [HWS.out]; rfl
      · rw [HWS.out]
    clear HBS HX HG HGN HOX HOG HOL HOLO HT5 HAB HNA HWS HD
    obtain ⟨k, vx, h, rem, GOT, Ar, nr, cr, rfl, rfl, hgk, hbs, hnc, hac, hao, hX, hW, hG, hGN, hD, hOX, hOG, hOL, htr, hs1, hs2, hs3, hnr, hkn, hkb⟩ := hrel
    have HGK := Lib.hid hgk
    have HBS := Lib.hid hbs
    have HNCR := Lib.hid hnc
    have HAC := Lib.hid hac
    have HAO := Lib.hid hao
    have HX := Lib.hid hX
    have HWT := Lib.hid hW
    have HG := Lib.hid hG
    have HGN := Lib.hid hGN
    have HD := Lib.hid hD
    have HOX := Lib.hid hOX
    have HOG := Lib.hid hOG
    have HOL := Lib.hid hOL
    have HTR := Lib.hid htr
    have HS1 := Lib.hid hs1
    have HS2 := Lib.hid hs2
    have HS3 := Lib.hid hs3
    have HNR := Lib.hid hnr
    have HKN2 := Lib.hid hkn
    have HKB := Lib.hid hkb
    clear hgk hbs hnc hac hao hX hW hG hGN hD hOX hOG hOL htr hs1 hs2 hs3 hnr hkn hkb
    obtain ⟨Ag, cg, rfl⟩ := HG.out.form
    obtain ⟨ng, hng⟩ : ∃ ng, ng = GOT.length := ⟨_, rfl⟩
    rw [← hng] at HG HGN HOG ⊢
    have HNG := Lib.hid hng
    clear hng
    have hrl : rem.length = nr := HBS.out.1
    have HRL := Lib.hid hrl
    clear hrl
    have y5 : (n2 : Int) ≤ 1048576 := by have := HNC.out; omega
    have y6 : (nr : Int) ≤ 538968064 := by have := HNR.out; omega
    have y7 : (k : Int) ≤ 1048577 := by have := HKB.out; omega
    by_cases hr : 0 < nr
    · have y2 : (0 : Int) < (nr : Int) := by omega
      have HR := Lib.hid hr
      clear hr
      by_cases hk2 : k < n2
      · have y3 : (k : Int) < (n2 : Int) := by omega
        have HK2 := Lib.hid hk2
        obtain ⟨cb, co, hA2, hcc⟩ := (HKS.out.still HTR.out).2 (by omega)
        have hcell := hcc k hk2
        subst hA2
        generalize zs.getD k 0 = z at *
        clear hk2 hcc
        go_upto_region 21 with fail
        refine wp_region_lit ?_
        refine wpList_run (v := .int .i64 (k : Int)) rfl (exec_move rfl rfl) ?_
        simp only [Act.put, List.setIfInBounds_toArray, List.set_cons_zero, List.set_cons_succ]
        refine wpList_run (v := .slice (some ⟨cb, co, none⟩) n2 c2) rfl (exec_move rfl rfl) ?_
        simp only [Act.put, List.setIfInBounds_toArray, List.set_cons_zero, List.set_cons_succ]
        refine wpList_run (v := .int .i64 (n2 : Int)) rfl (gx_len rfl rfl Try.underlying39) ?_
        simp only [Act.put, List.setIfInBounds_toArray, List.set_cons_zero, List.set_cons_succ]
        refine wpList_run (v := .bool true) rfl (ix_lss rfl rfl rfl (decide_eq_true y3)) ?_
        simp only [Act.put, List.setIfInBounds_toArray, List.set_cons_zero, List.set_cons_succ]
        refine wpList_run (v := .bool true) rfl (exec_move rfl rfl) ?_
        simp only [Act.put, List.setIfInBounds_toArray, List.set_cons_zero, List.set_cons_succ]
        refine wpList_run (v := .slice (some ⟨cb, co, none⟩) n2 c2) rfl (exec_move rfl rfl) ?_
        simp only [Act.put, List.setIfInBounds_toArray, List.set_cons_zero, List.set_cons_succ]
        refine wpList_run (v := .int .i64 (k : Int)) rfl (exec_move rfl rfl) ?_
        simp only [Act.put, List.setIfInBounds_toArray, List.set_cons_zero, List.set_cons_succ]
        refine wpList_run (v := .pointer (some ⟨cb, co + k, none⟩)) rfl (gx_iaddr (i := k) (sz := 1) rfl rfl rfl Try.underlying39 (by kernel_rfl) HK2.out (by omega)) ?_
        simp only [Act.put, List.setIfInBounds_toArray, List.set_cons_zero, List.set_cons_succ]
        refine wpList_run (v := .int .i64 z) rfl (exec_load1 rfl rfl (by kernel_rfl) hcell) ?_
        simp only [Act.put, List.setIfInBounds_toArray, List.set_cons_zero, List.set_cons_succ]

        by_cases hz0 : 0 ≤ z
        · have HZ0 := Lib.hid hz0
          clear hz0
          refine wpList_run (v := .bool true) rfl (ix_geq rfl rfl rfl (decide_eq_true HZ0.out)) ?_
          simp only [Act.put, List.setIfInBounds_toArray, List.set_cons_zero, List.set_cons_succ]
          refine wpList_run (v := .bool true) rfl (ix_pickT rfl rfl rfl) ?_
          simp only [Act.put, List.setIfInBounds_toArray, List.set_cons_zero, List.set_cons_succ]
          refine wpList_run (v := .bool true) rfl (exec_move rfl rfl) ?_
          simp only [Act.put, List.setIfInBounds_toArray, List.set_cons_zero, List.set_cons_succ]
          refine wpList_run (v := .slice (some ⟨cb, co, none⟩) n2 c2) rfl (exec_move rfl rfl) ?_
          simp only [Act.put, List.setIfInBounds_toArray, List.set_cons_zero, List.set_cons_succ]
          refine wpList_run (v := .int .i64 (k : Int)) rfl (exec_move rfl rfl) ?_
          simp only [Act.put, List.setIfInBounds_toArray, List.set_cons_zero, List.set_cons_succ]
          refine wpList_run (v := .pointer (some ⟨cb, co + k, none⟩)) rfl (gx_iaddr (i := k) (sz := 1) rfl rfl rfl Try.underlying39 (by kernel_rfl) HK2.out (by omega)) ?_
          simp only [Act.put, List.setIfInBounds_toArray, List.set_cons_zero, List.set_cons_succ]
          refine wpList_run (v := .int .i64 z) rfl (exec_load1 rfl rfl (by kernel_rfl) hcell) ?_
          simp only [Act.put, List.setIfInBounds_toArray, List.set_cons_zero, List.set_cons_succ]
          refine wpList_run (v := .int .i64 (nr : Int)) rfl (exec_move rfl rfl) ?_
          simp only [Act.put, List.setIfInBounds_toArray, List.set_cons_zero, List.set_cons_succ]

          by_cases hzn : z < (nr : Int)
          · obtain ⟨nn, rfl⟩ : ∃ nn : Nat, z = (nn : Int) := ⟨z.toNat, by have := HZ0.out; omega⟩
            have HLE := Lib.hid (show nn ≤ nr from by omega)
            have HPR := Lib.hid (show nn = nr ∨ k < n2 from .inr HK2.out)
            have HZN := Lib.hid hzn
            clear hzn
            refine wpList_run (v := .bool true) rfl (ix_lss rfl rfl rfl (decide_eq_true HZN.out)) ?_
            simp only [Act.put, List.setIfInBounds_toArray, List.set_cons_zero, List.set_cons_succ]
            refine wpList_run (v := .bool true) rfl (ix_pickT rfl rfl rfl) ?_
            simp only [Act.put, List.setIfInBounds_toArray, List.set_cons_zero, List.set_cons_succ]

            go_upto_region 22 with fail
            refine wp_region_lit ?_
            refine wpList_run (v := .slice (some ⟨cb, co, none⟩) n2 c2) rfl (exec_move rfl rfl) ?_
            simp only [Act.put, List.setIfInBounds_toArray, List.set_cons_zero, List.set_cons_succ]
            refine wpList_run (v := .int .i64 (k : Int)) rfl (exec_move rfl rfl) ?_
            simp only [Act.put, List.setIfInBounds_toArray, List.set_cons_zero, List.set_cons_succ]
            refine wpList_run (v := .pointer (some ⟨cb, co + k, none⟩)) rfl (gx_iaddr (i := k) (sz := 1) rfl rfl rfl Try.underlying39 (by kernel_rfl) HK2.out (by omega)) ?_
            simp only [Act.put, List.setIfInBounds_toArray, List.set_cons_zero, List.set_cons_succ]
            refine wpList_run (v := .int .i64 (nn : Int)) rfl (exec_load1 rfl rfl (by kernel_rfl) hcell) ?_
            simp only [Act.put, List.setIfInBounds_toArray, List.set_cons_zero, List.set_cons_succ]

            clear hcell
            have hr1 := HBS.out.take HLE.out
            have hw1 := feed_walk (c := cr) HX.out.lk hr1 HAC.out (by have := waits_len HWT.out; have := HNR.out; have := HLE.out; omega)
            have hsplit : (h ++ rem.take nn) ++ rem.drop nn = h ++ rem := by rw [List.append_assoc, List.take_append_drop]
            have hok : (feed (h ++ rem.take nn)).ok = true := whole_ok (b := rem.drop nn) (by rw [hsplit]; exact HS1.out)
            have hj := join_ok (b := rem.drop nn) hok
            rw [hsplit] at hj
            have HJ := Lib.hid hj
            have HOK := Lib.hid hok
            have HW1 := Lib.hid hw1
            have HRW := Lib.hid (rest_waits _ hok)
            clear hr1 hw1 hsplit hok hj
            go_upto_region 23 with fail
            refine wp_region_lit ?_
            refine wpList_run (v := .pointer (some ⟨p, 0, none⟩)) rfl (exec_move rfl rfl) ?_
            simp only [Act.put, List.setIfInBounds_toArray, List.set_cons_zero, List.set_cons_succ]
            refine wpList_run (v := .slice Ar nr cr) rfl (exec_move rfl rfl) ?_
            simp only [Act.put, List.setIfInBounds_toArray, List.set_cons_zero, List.set_cons_succ]
            refine wpList_run (v := .int .i64 (nn : Int)) rfl (exec_move rfl rfl) ?_
            simp only [Act.put, List.setIfInBounds_toArray, List.set_cons_zero, List.set_cons_succ]
            refine wpList_run (v := .slice Ar nn cr) rfl (cut_to rfl rfl rfl (by have := HLE.out; have := HNCR.out; omega)) ?_
            simp only [Act.put, List.setIfInBounds_toArray, List.set_cons_zero, List.set_cons_succ]

            go_wp2_with fail
            refine HW1.out.mono ?_
            rintro e w6 ⟨fv6, v6, rfl, hL6, hf6, ht6, hs6⟩
            simp only [Act.put, List.setIfInBounds_toArray, List.set_cons_zero, List.set_cons_succ]
            rename_i K6 hK6
            refine hK6 _ _ ?_
            clear hK6 K6

            obtain ⟨fA6, fc6, rfl⟩ := hf6.form
            rw [HOK.out, HE0.out]
            have HX6 := Lib.hid (fed_new HX.out hL6 HTR.out.size hs6)
            have HOX6 := Lib.hid (fed_apart HOL.out HOX.out hs6)
            have HD6 := Lib.hid (HD.out.turn ht6 HX.out.new (fun j hj => HOX.out j (by
              have := HO2.out j (by rw [← HVD.out]; exact hj)
              exact this)))
            have HBS6 := Lib.hid (HBS.out.turn ht6 (fun b off s e _ _ => HOX.out b (HAO.out b ⟨off, s, e⟩)))
            have HT6 := Lib.hid (turn_new HTR.out ht6 HX.out.new)
            have hg1 := HG.out.mono (G' := fun j => ¬ foot p vx j ∧ j < wr.heap.size) (fun j hj hlt => ⟨hj, hlt⟩)
            have hgb : ∀ j, ob (.slice Ag ng cg) j → ¬ foot p vx j ∧ j < wr.heap.size := fun j hj => by
              obtain ⟨vals, q1, q2, _⟩ := hg1
              exact q2 j hj
            have hg6 : Frr w6 (fun j => ¬ foot p v6 j) (.slice Ag ng cg) GOT := (hg1.turn ht6 (fun j hj => hj.1)).mono (fun j hj _ e => by
              rcases hs6 j e with h1 | h1
              · exact hj.1 h1
              · have := hj.2
                omega)
            have hcat : GOT.length + (feed (h ++ rem.take nn)).fs.length ≤ 1048576 := by
              have h1 := congrArg List.length HS2.out
              rw [HJ.out.2.1, List.length_append, List.length_append] at h1
              have := HWL2.out
              omega
            obtain ⟨A7, c7, w7, hrun7, hg7, hext7⟩ := frr_cat (ty := 28) hg6 hf6.frr (fun j hj _ => hj.2) (fun j hj e => by
              have h1 := hgb j e
              rcases hj.1 with h2 | h2
              · omega
              · exact h1.1 (.inr h2)) (by omega) (fun j hj e => by have := HX6.out.lk.lt j e; omega)
            rw [← HNG.out] at hrun7 hg7 hext7
            have HRUN7 := Lib.hid hrun7
            have HG7 := Lib.hid hg7
            have HX7 := Lib.hid (ext_lkn HX6.out hext7 (fun j hj e => by
              obtain ⟨vals, q1, q2, _⟩ := hg6
              exact q2 j e hj))
            have HGN7 := Lib.hid (ext_newb hext7 HT6.out.size HGN.out)
            have HD7 := Lib.hid (HD6.out.turn hext7.tr (fun j hj => HGN.out j (Eq.symm hj)) (fun j hj e => HOG.out j (HO2.out j (by rw [← HVD.out]; exact hj)) (Eq.symm e)))
            have HBS7 := Lib.hid (HBS6.out.turn hext7.tr (fun b off s e _ _ h => HOG.out b (HAO.out b ⟨off, s, e⟩) (Eq.symm h)))
            have HOL6 : ∀ j, O j → j < w6.heap.size := fun j hj => Nat.lt_of_lt_of_le (HOL.out j hj) ht6.size
            have HOG7 := Lib.hid (ext_apart hext7 HOL6 HOG.out)
            have HOL7 := Lib.hid (show ∀ j, O j → j < w7.heap.size from fun j hj => Nat.lt_of_lt_of_le (HOL6 j hj) hext7.tr.size)
            have HT7 := Lib.hid (ext_turn HT6.out hext7 HGN.out)
            have HS27 := Lib.hid (show (GOT ++ (feed (h ++ rem.take nn)).fs) ++ (feed ((feed (h ++ rem.take nn)).rest ++ rem.drop nn)).fs = WT from by
              rw [List.append_assoc, ← HJ.out.2.1]
              exact HS2.out)
            have HS17 := Lib.hid (show (feed ((feed (h ++ rem.take nn)).rest ++ rem.drop nn)).ok = true from by rw [← HJ.out.1]; exact HS1.out)
            have HS37 := Lib.hid (show (feed ((feed (h ++ rem.take nn)).rest ++ rem.drop nn)).rest = [] from by rw [← HJ.out.2.2]; exact HS3.out)
            clear hL6 hf6 ht6 hs6 hg1 hgb hg6 hcat hrun7 hg7 hext7 HOL6 HW1
            generalize feed (h ++ rem.take nn) = r at *
            generalize hn7 : r.fs.length = n7 at *
            clear hn7
            go_upto_region 26 with fail
            refine wp_region_lit ?_
            refine wpList_run (v := .slice Ag ng cg) rfl (exec_move rfl rfl) ?_
            simp only [Act.put, List.setIfInBounds_toArray, List.set_cons_zero, List.set_cons_succ]
            refine wpList_run (v := .slice fA6 n7 fc6) rfl (exec_move rfl rfl) ?_
            simp only [Act.put, List.setIfInBounds_toArray, List.set_cons_zero, List.set_cons_succ]
            refine wpList_run (v := .slice A7 (ng + n7) c7) (w' := w7) rfl (exec_append rfl rfl rfl HRUN7.out) ?_
            simp only [Act.put, List.setIfInBounds_toArray, List.set_cons_zero, List.set_cons_succ]

            go_upto_region 27 with fail
            refine wp_region_lit ?_
            refine wpList_run (v := .slice Ar nr cr) rfl (exec_move rfl rfl) ?_
            simp only [Act.put, List.setIfInBounds_toArray, List.set_cons_zero, List.set_cons_succ]
            refine wpList_run (v := .int .i64 (nn : Int)) rfl (exec_move rfl rfl) ?_
            simp only [Act.put, List.setIfInBounds_toArray, List.set_cons_zero, List.set_cons_succ]
            refine wpList_run (v := .slice (pos Ar nn cr) (nr - nn) (cr - nn)) rfl (cut_slice2 rfl rfl rfl HLE.out) ?_
            simp only [Act.put, List.setIfInBounds_toArray, List.set_cons_zero, List.set_cons_succ]

            go_wp2_with fail
            go_roundg (if nr - nn = 0 then 0 else n2 - (k + 1) + 1)
            case measure =>
              have h1 := HGK.out
              have h2 := HR.out
              have h3 := HPR.out
              rw [if_neg (by omega)] at h1
              split <;> omega
            case rel =>
              have h2 := HLE.out
              have h3 := HPR.out
              exact ⟨k + 1, v6, r.rest, rem.drop nn, GOT ++ r.fs, pos Ar nn cr, nr - nn, cr - nn, by go_num, rfl, rfl, HBS7.out.pos h2 HNCR.out, by have := HNCR.out; omega, fun e => by have := HAC.out (pos_none.1 e); omega, fun j hj => HAO.out j (own_pos hj), HX7.out, HRW.out, HG7.out, HGN7.out, HD7.out, HOX6.out, HOG7.out, HOL7.out, HT7.out, HS17.out, HS27.out, HS37.out, by have := HNR.out; omega, by omega, by have := HKN2.out; have := HR.out; omega⟩

          · have HZN := Lib.hid hzn
            clear hzn
            obtain ⟨nn, hnn⟩ : ∃ nn, nn = nr := ⟨_, rfl⟩
            have HNN := Lib.hid hnn
            clear hnn
            have HLE := Lib.hid (show nn ≤ nr from by have := HNN.out; omega)
            have HPR := Lib.hid (show nn = nr ∨ k < n2 from .inl HNN.out)
            refine wpList_run (v := .bool false) rfl (ix_lss rfl rfl rfl (decide_eq_false HZN.out)) ?_
            simp only [Act.put, List.setIfInBounds_toArray, List.set_cons_zero, List.set_cons_succ]
            refine wpList_run (v := .bool false) rfl (ix_pickT rfl rfl rfl) ?_
            simp only [Act.put, List.setIfInBounds_toArray, List.set_cons_zero, List.set_cons_succ]

            clear hcell
            have hr1 := HBS.out.take HLE.out
            have hw1 := feed_walk (c := cr) HX.out.lk hr1 HAC.out (by have := waits_len HWT.out; have := HNR.out; have := HLE.out; omega)
            have hsplit : (h ++ rem.take nn) ++ rem.drop nn = h ++ rem := by rw [List.append_assoc, List.take_append_drop]
            have hok : (feed (h ++ rem.take nn)).ok = true := whole_ok (b := rem.drop nn) (by rw [hsplit]; exact HS1.out)
            have hj := join_ok (b := rem.drop nn) hok
            rw [hsplit] at hj
            have HJ := Lib.hid hj
            have HOK := Lib.hid hok
            have HW1 := Lib.hid hw1
            have HRW := Lib.hid (rest_waits _ hok)
            clear hr1 hw1 hsplit hok hj
            go_upto_region 23 with fail
            refine wp_region_lit ?_
            refine wpList_run (v := .pointer (some ⟨p, 0, none⟩)) rfl (exec_move rfl rfl) ?_
            simp only [Act.put, List.setIfInBounds_toArray, List.set_cons_zero, List.set_cons_succ]
            refine wpList_run (v := .slice Ar nr cr) rfl (exec_move rfl rfl) ?_
            simp only [Act.put, List.setIfInBounds_toArray, List.set_cons_zero, List.set_cons_succ]
            refine wpList_run (v := .int .i64 (nn : Int)) rfl (by rw [HNN.out]; exact exec_move rfl rfl) ?_
            simp only [Act.put, List.setIfInBounds_toArray, List.set_cons_zero, List.set_cons_succ]
            refine wpList_run (v := .slice Ar nn cr) rfl (cut_to rfl rfl rfl (by have := HLE.out; have := HNCR.out; omega)) ?_
            simp only [Act.put, List.setIfInBounds_toArray, List.set_cons_zero, List.set_cons_succ]

            go_wp2_with fail
            refine HW1.out.mono ?_
            rintro e w6 ⟨fv6, v6, rfl, hL6, hf6, ht6, hs6⟩
            simp only [Act.put, List.setIfInBounds_toArray, List.set_cons_zero, List.set_cons_succ]
            rename_i K6 hK6
            refine hK6 _ _ ?_
            clear hK6 K6

            obtain ⟨fA6, fc6, rfl⟩ := hf6.form
            rw [HOK.out, HE0.out]
            have HX6 := Lib.hid (fed_new HX.out hL6 HTR.out.size hs6)
            have HOX6 := Lib.hid (fed_apart HOL.out HOX.out hs6)
            have HD6 := Lib.hid (HD.out.turn ht6 HX.out.new (fun j hj => HOX.out j (by
              have := HO2.out j (by rw [← HVD.out]; exact hj)
              exact this)))
            have HBS6 := Lib.hid (HBS.out.turn ht6 (fun b off s e _ _ => HOX.out b (HAO.out b ⟨off, s, e⟩)))
            have HT6 := Lib.hid (turn_new HTR.out ht6 HX.out.new)
            have hg1 := HG.out.mono (G' := fun j => ¬ foot p vx j ∧ j < wr.heap.size) (fun j hj hlt => ⟨hj, hlt⟩)
            have hgb : ∀ j, ob (.slice Ag ng cg) j → ¬ foot p vx j ∧ j < wr.heap.size := fun j hj => by
              obtain ⟨vals, q1, q2, _⟩ := hg1
              exact q2 j hj
            have hg6 : Frr w6 (fun j => ¬ foot p v6 j) (.slice Ag ng cg) GOT := (hg1.turn ht6 (fun j hj => hj.1)).mono (fun j hj _ e => by
              rcases hs6 j e with h1 | h1
              · exact hj.1 h1
              · have := hj.2
                omega)
            have hcat : GOT.length + (feed (h ++ rem.take nn)).fs.length ≤ 1048576 := by
              have h1 := congrArg List.length HS2.out
              rw [HJ.out.2.1, List.length_append, List.length_append] at h1
              have := HWL2.out
              omega
            obtain ⟨A7, c7, w7, hrun7, hg7, hext7⟩ := frr_cat (ty := 28) hg6 hf6.frr (fun j hj _ => hj.2) (fun j hj e => by
              have h1 := hgb j e
              rcases hj.1 with h2 | h2
              · omega
              · exact h1.1 (.inr h2)) (by omega) (fun j hj e => by have := HX6.out.lk.lt j e; omega)
            rw [← HNG.out] at hrun7 hg7 hext7
            have HRUN7 := Lib.hid hrun7
            have HG7 := Lib.hid hg7
            have HX7 := Lib.hid (ext_lkn HX6.out hext7 (fun j hj e => by
              obtain ⟨vals, q1, q2, _⟩ := hg6
              exact q2 j e hj))
            have HGN7 := Lib.hid (ext_newb hext7 HT6.out.size HGN.out)
            have HD7 := Lib.hid (HD6.out.turn hext7.tr (fun j hj => HGN.out j (Eq.symm hj)) (fun j hj e => HOG.out j (HO2.out j (by rw [← HVD.out]; exact hj)) (Eq.symm e)))
            have HBS7 := Lib.hid (HBS6.out.turn hext7.tr (fun b off s e _ _ h => HOG.out b (HAO.out b ⟨off, s, e⟩) (Eq.symm h)))
            have HOL6 : ∀ j, O j → j < w6.heap.size := fun j hj => Nat.lt_of_lt_of_le (HOL.out j hj) ht6.size
            have HOG7 := Lib.hid (ext_apart hext7 HOL6 HOG.out)
            have HOL7 := Lib.hid (show ∀ j, O j → j < w7.heap.size from fun j hj => Nat.lt_of_lt_of_le (HOL6 j hj) hext7.tr.size)
            have HT7 := Lib.hid (ext_turn HT6.out hext7 HGN.out)
            have HS27 := Lib.hid (show (GOT ++ (feed (h ++ rem.take nn)).fs) ++ (feed ((feed (h ++ rem.take nn)).rest ++ rem.drop nn)).fs = WT from by
              rw [List.append_assoc, ← HJ.out.2.1]
              exact HS2.out)
            have HS17 := Lib.hid (show (feed ((feed (h ++ rem.take nn)).rest ++ rem.drop nn)).ok = true from by rw [← HJ.out.1]; exact HS1.out)
            have HS37 := Lib.hid (show (feed ((feed (h ++ rem.take nn)).rest ++ rem.drop nn)).rest = [] from by rw [← HJ.out.2.2]; exact HS3.out)
            clear hL6 hf6 ht6 hs6 hg1 hgb hg6 hcat hrun7 hg7 hext7 HOL6 HW1
            generalize feed (h ++ rem.take nn) = r at *
            generalize hn7 : r.fs.length = n7 at *
            clear hn7
            go_upto_region 26 with fail
            refine wp_region_lit ?_
            refine wpList_run (v := .slice Ag ng cg) rfl (exec_move rfl rfl) ?_
            simp only [Act.put, List.setIfInBounds_toArray, List.set_cons_zero, List.set_cons_succ]
            refine wpList_run (v := .slice fA6 n7 fc6) rfl (exec_move rfl rfl) ?_
            simp only [Act.put, List.setIfInBounds_toArray, List.set_cons_zero, List.set_cons_succ]
            refine wpList_run (v := .slice A7 (ng + n7) c7) (w' := w7) rfl (exec_append rfl rfl rfl HRUN7.out) ?_
            simp only [Act.put, List.setIfInBounds_toArray, List.set_cons_zero, List.set_cons_succ]

            go_upto_region 27 with fail
            refine wp_region_lit ?_
            refine wpList_run (v := .slice Ar nr cr) rfl (exec_move rfl rfl) ?_
            simp only [Act.put, List.setIfInBounds_toArray, List.set_cons_zero, List.set_cons_succ]
            refine wpList_run (v := .int .i64 (nn : Int)) rfl (by rw [HNN.out]; exact exec_move rfl rfl) ?_
            simp only [Act.put, List.setIfInBounds_toArray, List.set_cons_zero, List.set_cons_succ]
            refine wpList_run (v := .slice (pos Ar nn cr) (nr - nn) (cr - nn)) rfl (cut_slice2 rfl rfl rfl HLE.out) ?_
            simp only [Act.put, List.setIfInBounds_toArray, List.set_cons_zero, List.set_cons_succ]

            go_wp2_with fail
            go_roundg (if nr - nn = 0 then 0 else n2 - (k + 1) + 1)
            case measure =>
              have h1 := HGK.out
              have h2 := HR.out
              have h3 := HPR.out
              rw [if_neg (by omega)] at h1
              split <;> omega
            case rel =>
              have h2 := HLE.out
              have h3 := HPR.out
              exact ⟨k + 1, v6, r.rest, rem.drop nn, GOT ++ r.fs, pos Ar nn cr, nr - nn, cr - nn, by go_num, rfl, rfl, HBS7.out.pos h2 HNCR.out, by have := HNCR.out; omega, fun e => by have := HAC.out (pos_none.1 e); omega, fun j hj => HAO.out j (own_pos hj), HX7.out, HRW.out, HG7.out, HGN7.out, HD7.out, HOX6.out, HOG7.out, HOL7.out, HT7.out, HS17.out, HS27.out, HS37.out, by have := HNR.out; omega, by omega, by have := HKN2.out; have := HR.out; omega⟩

        · have HZ0 := Lib.hid hz0
          clear hz0
          obtain ⟨nn, hnn⟩ : ∃ nn, nn = nr := ⟨_, rfl⟩
          have HNN := Lib.hid hnn
          clear hnn
          have HLE := Lib.hid (show nn ≤ nr from by have := HNN.out; omega)
          have HPR := Lib.hid (show nn = nr ∨ k < n2 from .inl HNN.out)
          refine wpList_run (v := .bool false) rfl (ix_geq rfl rfl rfl (decide_eq_false HZ0.out)) ?_
          simp only [Act.put, List.setIfInBounds_toArray, List.set_cons_zero, List.set_cons_succ]
          refine wpList_run (v := .bool false) rfl (ix_pickT rfl rfl rfl) ?_
          simp only [Act.put, List.setIfInBounds_toArray, List.set_cons_zero, List.set_cons_succ]
          refine wpList_run (v := .bool false) rfl (exec_move rfl rfl) ?_
          simp only [Act.put, List.setIfInBounds_toArray, List.set_cons_zero, List.set_cons_succ]

          clear hcell
          have hr1 := HBS.out.take HLE.out
          have hw1 := feed_walk (c := cr) HX.out.lk hr1 HAC.out (by have := waits_len HWT.out; have := HNR.out; have := HLE.out; omega)
          have hsplit : (h ++ rem.take nn) ++ rem.drop nn = h ++ rem := by rw [List.append_assoc, List.take_append_drop]
          have hok : (feed (h ++ rem.take nn)).ok = true := whole_ok (b := rem.drop nn) (by rw [hsplit]; exact HS1.out)
          have hj := join_ok (b := rem.drop nn) hok
          rw [hsplit] at hj
          have HJ := Lib.hid hj
          have HOK := Lib.hid hok
          have HW1 := Lib.hid hw1
          have HRW := Lib.hid (rest_waits _ hok)
          clear hr1 hw1 hsplit hok hj
          go_upto_region 23 with fail
          refine wp_region_lit ?_
          refine wpList_run (v := .pointer (some ⟨p, 0, none⟩)) rfl (exec_move rfl rfl) ?_
          simp only [Act.put, List.setIfInBounds_toArray, List.set_cons_zero, List.set_cons_succ]
          refine wpList_run (v := .slice Ar nr cr) rfl (exec_move rfl rfl) ?_
          simp only [Act.put, List.setIfInBounds_toArray, List.set_cons_zero, List.set_cons_succ]
          refine wpList_run (v := .int .i64 (nn : Int)) rfl (by rw [HNN.out]; exact exec_move rfl rfl) ?_
          simp only [Act.put, List.setIfInBounds_toArray, List.set_cons_zero, List.set_cons_succ]
          refine wpList_run (v := .slice Ar nn cr) rfl (cut_to rfl rfl rfl (by have := HLE.out; have := HNCR.out; omega)) ?_
          simp only [Act.put, List.setIfInBounds_toArray, List.set_cons_zero, List.set_cons_succ]

          go_wp2_with fail
          refine HW1.out.mono ?_
          rintro e w6 ⟨fv6, v6, rfl, hL6, hf6, ht6, hs6⟩
          simp only [Act.put, List.setIfInBounds_toArray, List.set_cons_zero, List.set_cons_succ]
          rename_i K6 hK6
          refine hK6 _ _ ?_
          clear hK6 K6

          obtain ⟨fA6, fc6, rfl⟩ := hf6.form
          rw [HOK.out, HE0.out]
          have HX6 := Lib.hid (fed_new HX.out hL6 HTR.out.size hs6)
          have HOX6 := Lib.hid (fed_apart HOL.out HOX.out hs6)
          have HD6 := Lib.hid (HD.out.turn ht6 HX.out.new (fun j hj => HOX.out j (by
            have := HO2.out j (by rw [← HVD.out]; exact hj)
            exact this)))
          have HBS6 := Lib.hid (HBS.out.turn ht6 (fun b off s e _ _ => HOX.out b (HAO.out b ⟨off, s, e⟩)))
          have HT6 := Lib.hid (turn_new HTR.out ht6 HX.out.new)
          have hg1 := HG.out.mono (G' := fun j => ¬ foot p vx j ∧ j < wr.heap.size) (fun j hj hlt => ⟨hj, hlt⟩)
          have hgb : ∀ j, ob (.slice Ag ng cg) j → ¬ foot p vx j ∧ j < wr.heap.size := fun j hj => by
            obtain ⟨vals, q1, q2, _⟩ := hg1
            exact q2 j hj
          have hg6 : Frr w6 (fun j => ¬ foot p v6 j) (.slice Ag ng cg) GOT := (hg1.turn ht6 (fun j hj => hj.1)).mono (fun j hj _ e => by
            rcases hs6 j e with h1 | h1
            · exact hj.1 h1
            · have := hj.2
              omega)
          have hcat : GOT.length + (feed (h ++ rem.take nn)).fs.length ≤ 1048576 := by
            have h1 := congrArg List.length HS2.out
            rw [HJ.out.2.1, List.length_append, List.length_append] at h1
            have := HWL2.out
            omega
          obtain ⟨A7, c7, w7, hrun7, hg7, hext7⟩ := frr_cat (ty := 28) hg6 hf6.frr (fun j hj _ => hj.2) (fun j hj e => by
            have h1 := hgb j e
            rcases hj.1 with h2 | h2
            · omega
            · exact h1.1 (.inr h2)) (by omega) (fun j hj e => by have := HX6.out.lk.lt j e; omega)
          rw [← HNG.out] at hrun7 hg7 hext7
          have HRUN7 := Lib.hid hrun7
          have HG7 := Lib.hid hg7
          have HX7 := Lib.hid (ext_lkn HX6.out hext7 (fun j hj e => by
            obtain ⟨vals, q1, q2, _⟩ := hg6
            exact q2 j e hj))
          have HGN7 := Lib.hid (ext_newb hext7 HT6.out.size HGN.out)
          have HD7 := Lib.hid (HD6.out.turn hext7.tr (fun j hj => HGN.out j (Eq.symm hj)) (fun j hj e => HOG.out j (HO2.out j (by rw [← HVD.out]; exact hj)) (Eq.symm e)))
          have HBS7 := Lib.hid (HBS6.out.turn hext7.tr (fun b off s e _ _ h => HOG.out b (HAO.out b ⟨off, s, e⟩) (Eq.symm h)))
          have HOL6 : ∀ j, O j → j < w6.heap.size := fun j hj => Nat.lt_of_lt_of_le (HOL.out j hj) ht6.size
          have HOG7 := Lib.hid (ext_apart hext7 HOL6 HOG.out)
          have HOL7 := Lib.hid (show ∀ j, O j → j < w7.heap.size from fun j hj => Nat.lt_of_lt_of_le (HOL6 j hj) hext7.tr.size)
          have HT7 := Lib.hid (ext_turn HT6.out hext7 HGN.out)
          have HS27 := Lib.hid (show (GOT ++ (feed (h ++ rem.take nn)).fs) ++ (feed ((feed (h ++ rem.take nn)).rest ++ rem.drop nn)).fs = WT from by
            rw [List.append_assoc, ← HJ.out.2.1]
            exact HS2.out)
          have HS17 := Lib.hid (show (feed ((feed (h ++ rem.take nn)).rest ++ rem.drop nn)).ok = true from by rw [← HJ.out.1]; exact HS1.out)
          have HS37 := Lib.hid (show (feed ((feed (h ++ rem.take nn)).rest ++ rem.drop nn)).rest = [] from by rw [← HJ.out.2.2]; exact HS3.out)
          clear hL6 hf6 ht6 hs6 hg1 hgb hg6 hcat hrun7 hg7 hext7 HOL6 HW1
          generalize feed (h ++ rem.take nn) = r at *
          generalize hn7 : r.fs.length = n7 at *
          clear hn7
          go_upto_region 26 with fail
          refine wp_region_lit ?_
          refine wpList_run (v := .slice Ag ng cg) rfl (exec_move rfl rfl) ?_
          simp only [Act.put, List.setIfInBounds_toArray, List.set_cons_zero, List.set_cons_succ]
          refine wpList_run (v := .slice fA6 n7 fc6) rfl (exec_move rfl rfl) ?_
          simp only [Act.put, List.setIfInBounds_toArray, List.set_cons_zero, List.set_cons_succ]
          refine wpList_run (v := .slice A7 (ng + n7) c7) (w' := w7) rfl (exec_append rfl rfl rfl HRUN7.out) ?_
          simp only [Act.put, List.setIfInBounds_toArray, List.set_cons_zero, List.set_cons_succ]

          go_upto_region 27 with fail
          refine wp_region_lit ?_
          refine wpList_run (v := .slice Ar nr cr) rfl (exec_move rfl rfl) ?_
          simp only [Act.put, List.setIfInBounds_toArray, List.set_cons_zero, List.set_cons_succ]
          refine wpList_run (v := .int .i64 (nn : Int)) rfl (by rw [HNN.out]; exact exec_move rfl rfl) ?_
          simp only [Act.put, List.setIfInBounds_toArray, List.set_cons_zero, List.set_cons_succ]
          refine wpList_run (v := .slice (pos Ar nn cr) (nr - nn) (cr - nn)) rfl (cut_slice2 rfl rfl rfl HLE.out) ?_
          simp only [Act.put, List.setIfInBounds_toArray, List.set_cons_zero, List.set_cons_succ]

          go_wp2_with fail
          go_roundg (if nr - nn = 0 then 0 else n2 - (k + 1) + 1)
          case measure =>
            have h1 := HGK.out
            have h2 := HR.out
            have h3 := HPR.out
            rw [if_neg (by omega)] at h1
            split <;> omega
          case rel =>
            have h2 := HLE.out
            have h3 := HPR.out
            exact ⟨k + 1, v6, r.rest, rem.drop nn, GOT ++ r.fs, pos Ar nn cr, nr - nn, cr - nn, by go_num, rfl, rfl, HBS7.out.pos h2 HNCR.out, by have := HNCR.out; omega, fun e => by have := HAC.out (pos_none.1 e); omega, fun j hj => HAO.out j (own_pos hj), HX7.out, HRW.out, HG7.out, HGN7.out, HD7.out, HOX6.out, HOG7.out, HOL7.out, HT7.out, HS17.out, HS27.out, HS37.out, by have := HNR.out; omega, by omega, by have := HKN2.out; have := HR.out; omega⟩

      · have y3 : ¬ ((k : Int) < (n2 : Int)) := by omega
        clear hk2
        obtain ⟨nn, hnn⟩ : ∃ nn, nn = nr := ⟨_, rfl⟩
        have HNN := Lib.hid hnn
        clear hnn
        have HLE := Lib.hid (show nn ≤ nr from by have := HNN.out; omega)
        have HPR := Lib.hid (show nn = nr ∨ k < n2 from .inl HNN.out)
        have hr1 := HBS.out.take HLE.out
        have hw1 := feed_walk (c := cr) HX.out.lk hr1 HAC.out (by have := waits_len HWT.out; have := HNR.out; have := HLE.out; omega)
        have hsplit : (h ++ rem.take nn) ++ rem.drop nn = h ++ rem := by rw [List.append_assoc, List.take_append_drop]
        have hok : (feed (h ++ rem.take nn)).ok = true := whole_ok (b := rem.drop nn) (by rw [hsplit]; exact HS1.out)
        have hj := join_ok (b := rem.drop nn) hok
        rw [hsplit] at hj
        have HJ := Lib.hid hj
        have HOK := Lib.hid hok
        have HW1 := Lib.hid hw1
        have HRW := Lib.hid (rest_waits _ hok)
        clear hr1 hw1 hsplit hok hj
        go_upto_region 23 with fail
        refine wp_region_lit ?_
        refine wpList_run (v := .pointer (some ⟨p, 0, none⟩)) rfl (exec_move rfl rfl) ?_
        simp only [Act.put, List.setIfInBounds_toArray, List.set_cons_zero, List.set_cons_succ]
        refine wpList_run (v := .slice Ar nr cr) rfl (exec_move rfl rfl) ?_
        simp only [Act.put, List.setIfInBounds_toArray, List.set_cons_zero, List.set_cons_succ]
        refine wpList_run (v := .int .i64 (nn : Int)) rfl (by rw [HNN.out]; exact exec_move rfl rfl) ?_
        simp only [Act.put, List.setIfInBounds_toArray, List.set_cons_zero, List.set_cons_succ]
        refine wpList_run (v := .slice Ar nn cr) rfl (cut_to rfl rfl rfl (by have := HLE.out; have := HNCR.out; omega)) ?_
        simp only [Act.put, List.setIfInBounds_toArray, List.set_cons_zero, List.set_cons_succ]

        go_wp2_with fail
        refine HW1.out.mono ?_
        rintro e w6 ⟨fv6, v6, rfl, hL6, hf6, ht6, hs6⟩
        simp only [Act.put, List.setIfInBounds_toArray, List.set_cons_zero, List.set_cons_succ]
        rename_i K6 hK6
        refine hK6 _ _ ?_
        clear hK6 K6

        obtain ⟨fA6, fc6, rfl⟩ := hf6.form
        rw [HOK.out, HE0.out]
        have HX6 := Lib.hid (fed_new HX.out hL6 HTR.out.size hs6)
        have HOX6 := Lib.hid (fed_apart HOL.out HOX.out hs6)
        have HD6 := Lib.hid (HD.out.turn ht6 HX.out.new (fun j hj => HOX.out j (by
          have := HO2.out j (by rw [← HVD.out]; exact hj)
          exact this)))
        have HBS6 := Lib.hid (HBS.out.turn ht6 (fun b off s e _ _ => HOX.out b (HAO.out b ⟨off, s, e⟩)))
        have HT6 := Lib.hid (turn_new HTR.out ht6 HX.out.new)
        have hg1 := HG.out.mono (G' := fun j => ¬ foot p vx j ∧ j < wr.heap.size) (fun j hj hlt => ⟨hj, hlt⟩)
        have hgb : ∀ j, ob (.slice Ag ng cg) j → ¬ foot p vx j ∧ j < wr.heap.size := fun j hj => by
          obtain ⟨vals, q1, q2, _⟩ := hg1
          exact q2 j hj
        have hg6 : Frr w6 (fun j => ¬ foot p v6 j) (.slice Ag ng cg) GOT := (hg1.turn ht6 (fun j hj => hj.1)).mono (fun j hj _ e => by
          rcases hs6 j e with h1 | h1
          · exact hj.1 h1
          · have := hj.2
            omega)
        have hcat : GOT.length + (feed (h ++ rem.take nn)).fs.length ≤ 1048576 := by
          have h1 := congrArg List.length HS2.out
          rw [HJ.out.2.1, List.length_append, List.length_append] at h1
          have := HWL2.out
          omega
        obtain ⟨A7, c7, w7, hrun7, hg7, hext7⟩ := frr_cat (ty := 28) hg6 hf6.frr (fun j hj _ => hj.2) (fun j hj e => by
          have h1 := hgb j e
          rcases hj.1 with h2 | h2
          · omega
          · exact h1.1 (.inr h2)) (by omega) (fun j hj e => by have := HX6.out.lk.lt j e; omega)
        rw [← HNG.out] at hrun7 hg7 hext7
        have HRUN7 := Lib.hid hrun7
        have HG7 := Lib.hid hg7
        have HX7 := Lib.hid (ext_lkn HX6.out hext7 (fun j hj e => by
          obtain ⟨vals, q1, q2, _⟩ := hg6
          exact q2 j e hj))
        have HGN7 := Lib.hid (ext_newb hext7 HT6.out.size HGN.out)
        have HD7 := Lib.hid (HD6.out.turn hext7.tr (fun j hj => HGN.out j (Eq.symm hj)) (fun j hj e => HOG.out j (HO2.out j (by rw [← HVD.out]; exact hj)) (Eq.symm e)))
        have HBS7 := Lib.hid (HBS6.out.turn hext7.tr (fun b off s e _ _ h => HOG.out b (HAO.out b ⟨off, s, e⟩) (Eq.symm h)))
        have HOL6 : ∀ j, O j → j < w6.heap.size := fun j hj => Nat.lt_of_lt_of_le (HOL.out j hj) ht6.size
        have HOG7 := Lib.hid (ext_apart hext7 HOL6 HOG.out)
        have HOL7 := Lib.hid (show ∀ j, O j → j < w7.heap.size from fun j hj => Nat.lt_of_lt_of_le (HOL6 j hj) hext7.tr.size)
        have HT7 := Lib.hid (ext_turn HT6.out hext7 HGN.out)
        have HS27 := Lib.hid (show (GOT ++ (feed (h ++ rem.take nn)).fs) ++ (feed ((feed (h ++ rem.take nn)).rest ++ rem.drop nn)).fs = WT from by
          rw [List.append_assoc, ← HJ.out.2.1]
          exact HS2.out)
        have HS17 := Lib.hid (show (feed ((feed (h ++ rem.take nn)).rest ++ rem.drop nn)).ok = true from by rw [← HJ.out.1]; exact HS1.out)
        have HS37 := Lib.hid (show (feed ((feed (h ++ rem.take nn)).rest ++ rem.drop nn)).rest = [] from by rw [← HJ.out.2.2]; exact HS3.out)
        clear hL6 hf6 ht6 hs6 hg1 hgb hg6 hcat hrun7 hg7 hext7 HOL6 HW1
        generalize feed (h ++ rem.take nn) = r at *
        generalize hn7 : r.fs.length = n7 at *
        clear hn7
        go_upto_region 26 with fail
        refine wp_region_lit ?_
        refine wpList_run (v := .slice Ag ng cg) rfl (exec_move rfl rfl) ?_
        simp only [Act.put, List.setIfInBounds_toArray, List.set_cons_zero, List.set_cons_succ]
        refine wpList_run (v := .slice fA6 n7 fc6) rfl (exec_move rfl rfl) ?_
        simp only [Act.put, List.setIfInBounds_toArray, List.set_cons_zero, List.set_cons_succ]
        refine wpList_run (v := .slice A7 (ng + n7) c7) (w' := w7) rfl (exec_append rfl rfl rfl HRUN7.out) ?_
        simp only [Act.put, List.setIfInBounds_toArray, List.set_cons_zero, List.set_cons_succ]

        go_upto_region 27 with fail
        refine wp_region_lit ?_
        refine wpList_run (v := .slice Ar nr cr) rfl (exec_move rfl rfl) ?_
        simp only [Act.put, List.setIfInBounds_toArray, List.set_cons_zero, List.set_cons_succ]
        refine wpList_run (v := .int .i64 (nn : Int)) rfl (by rw [HNN.out]; exact exec_move rfl rfl) ?_
        simp only [Act.put, List.setIfInBounds_toArray, List.set_cons_zero, List.set_cons_succ]
        refine wpList_run (v := .slice (pos Ar nn cr) (nr - nn) (cr - nn)) rfl (cut_slice2 rfl rfl rfl HLE.out) ?_
        simp only [Act.put, List.setIfInBounds_toArray, List.set_cons_zero, List.set_cons_succ]

        go_wp2_with fail
        go_roundg (if nr - nn = 0 then 0 else n2 - (k + 1) + 1)
        case measure =>
          have h1 := HGK.out
          have h2 := HR.out
          have h3 := HPR.out
          rw [if_neg (by omega)] at h1
          split <;> omega
        case rel =>
          have h2 := HLE.out
          have h3 := HPR.out
          exact ⟨k + 1, v6, r.rest, rem.drop nn, GOT ++ r.fs, pos Ar nn cr, nr - nn, cr - nn, by go_num, rfl, rfl, HBS7.out.pos h2 HNCR.out, by have := HNCR.out; omega, fun e => by have := HAC.out (pos_none.1 e); omega, fun j hj => HAO.out j (own_pos hj), HX7.out, HRW.out, HG7.out, HGN7.out, HD7.out, HOX6.out, HOG7.out, HOL7.out, HT7.out, HS17.out, HS27.out, HS37.out, by have := HNR.out; omega, by omega, by have := HKN2.out; have := HR.out; omega⟩

    · have y2 : ¬ ((0 : Int) < (nr : Int)) := by omega
      have hrem : rem = [] := List.eq_nil_of_length_eq_zero (by have := HRL.out; omega)
      have h1 := HS1.out
      have h2 := HS2.out
      have h3 := HS3.out
      rw [hrem, List.append_nil, HWT.out] at h2 h3
      have h2' : GOT = WT := by simpa using h2
      have h3' : h = [] := h3
      subst h3'
      have hsame := same_walk HG.out HD.out.frr (by have := HWL2.out; have := congrArg List.length h2'; omega)
      rw [decide_eq_true h2'] at hsame
      have HS := Lib.hid hsame
      clear hr hrem h1 h2 h3 h2' hsame
      rw [← HVD.out]
      obtain ⟨Ad, cd, rfl⟩ : ∃ Ad cd, vd = .slice Ad WT.length cd := HD.out.frr.form
      go_upto_region 28 with fail
      go_upto_region 29 with (go_at_call 16; refine HS.out.mono ?_; rintro e w9 ⟨rfl, ht9⟩)
      have HX9 := Lib.hid (HX.out.still ht9)
      have HT9 := Lib.hid (HTR.out.trans ht9 (fun _ _ e => e))
      clear ht9
      go_wp2_with (go_at_call 17; refine (held_walk HX9.out.lk).mono ?_; rintro e w10 ⟨rfl, rfl⟩)
      go_ret
      exact ⟨rfl, HT9.out.below (Nat.le_refl _) (fun k hk e => e)⟩

end Go.Proofs.Ytagoijgmoaffdaa
