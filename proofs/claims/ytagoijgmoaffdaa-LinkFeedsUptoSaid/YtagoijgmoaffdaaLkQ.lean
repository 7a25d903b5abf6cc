/-
  groatlaw06's LinkFeeds, walked. Condition: each piece, and their number, is at most 2^20.
-/
import Derived.Test.YtagoijgmoaffdaaLkW
import Derived.ArgAppend
namespace Go.Proofs.Ytagoijgmoaffdaa
open Go.RowKit
open Lkk
set_option linter.unusedVariables false
set_option linter.unusedSimpArgs false
/-- frames from j on, as they may still be written -/
def Wr (w : World) (G : Nat → Prop) (A : Option Addr) (m j : Nat) : Prop := 0 < m → ∃ rb cur, A = some ⟨rb, 0, none⟩ ∧ Blk w rb 22 cur ∧ m ≤ cur.size ∧ G rb ∧
  ∀ i, j ≤ i → i < m → ∃ b off n cu, cur[i]? = some (.slice (some ⟨b, off, none⟩) n n) ∧ 0 < n ∧ n ≤ 512 ∧ Blk w b 5 cu ∧ off + n ≤ cu.size ∧ G b
theorem wr_of {w : World} {G : Nat → Prop} {A : Option Addr} {m c : Nat} {fs : List (List UInt8)} (h : Frs w G (.slice A m c) fs) (hm : fs.length = m) (hr : Right fs) : Wr w G A m 0 := fun hp => by
  obtain ⟨vals, h1, h2, h3⟩ := h
  have hvl : vals.length = fs.length := by rw [h1.1, Nat.mul_one]
  rcases id h1.2 with ⟨e, h0⟩ | ⟨g, cap, cur, e, _, hg, hn, hcm, hs, ht⟩
  · injection e with _ e2 _
    omega
  · injection e with e1 e2 e3
    refine ⟨g, cur, e1, hg, by rw [hs, Nat.mul_one]; omega, h2 g (by rw [e1]; rfl), fun i _ hi => ?_⟩
    have hi' : vals[i]? = some (vals[i]'(by omega)) := List.getElem?_eq_getElem _
    obtain ⟨f, hf, b, off, n, cu, e4, p1, p2, p3, p4⟩ := h3 i _ hi'
    have hfr := hr f (List.mem_of_getElem? hf)
    have hci : cur[i]? = some (vals[i]'(by omega)) := by
      rw [← Array.getElem?_toList]
      have h5 : (cur.toList.take (fs.length * 1))[i]? = vals[i]? := by rw [ht]
      rw [List.getElem?_take, if_pos (by omega)] at h5
      rw [h5, hi']
    refine ⟨b, off, n, cu, by rw [hci, e4], p1, by have := p2.1; omega, p4, ?_, p3⟩
    have hc := bs_cell p2 (n - 1) (by omega)
    have hb : Blk w b 5 cu := p4
    rw [hb.cell] at hc
    have := (Array.getElem?_eq_some_iff.1 hc).1
    omega
theorem Wr.next {w : World} {G : Nat → Prop} {A : Option Addr} {m j : Nat} (h : Wr w G A m j) : Wr w G A m (j + 1) := fun hp => by
  obtain ⟨rb, cur, h1, h2, h3, h4, h5⟩ := h hp
  exact ⟨rb, cur, h1, h2, h3, h4, fun i hi him => h5 i (by omega) him⟩
/-- a byte of a frame is written -/
theorem Wr.byte {w : World} {G : Nat → Prop} {A : Option Addr} {m j b i : Nat} {cu : Array Value} {u : Value} (h : Wr w G A m j) (hb : Blk w b 5 cu) : Wr (w.setCell ⟨b, i, none⟩ u) G A m j := fun hp => by
  obtain ⟨rb, cur, h1, h2, h3, h4, h5⟩ := h hp
  refine ⟨rb, cur, h1, h2.far (fun e => h2.ne_ hb (by decide) e) u, h3, h4, fun i' hi him => ?_⟩
  obtain ⟨b', off, n, cu', q1, q2, q3, q4, q5, q6⟩ := h5 i' hi him
  by_cases e : b' = b
  · subst e
    have := q4.inj hb
    subst this
    exact ⟨b', off, n, _, q1, q2, q3, q4.set_ i u, by rw [Array.size_setIfInBounds]; exact q5, q6⟩
  · exact ⟨b', off, n, cu', q1, q2, q3, q4.far e u, q5, q6⟩
theorem Wr.still {w w' : World} {G : Nat → Prop} {A : Option Addr} {m j : Nat} (h : Wr w G A m j) (ht : Turn nowhere w w') : Wr w' G A m j := fun hp => by
  obtain ⟨rb, cur, h1, h2, h3, h4, h5⟩ := h hp
  refine ⟨rb, cur, h1, h2.turn ht (fun e => e), h3, h4, fun i hi him => ?_⟩
  obtain ⟨b', off, n, cu', q1, q2, q3, q4, q5, q6⟩ := h5 i hi him
  exact ⟨b', off, n, cu', q1, q2, q3, q4.turn ht (fun e => e), q5, q6⟩
/-- frame j's slice is another one -/
theorem Wr.put {w : World} {G : Nat → Prop} {rb m j : Nat} {cur : Array Value} {u : Value} (h : Wr w G (some ⟨rb, 0, none⟩) m j) (hb : Blk w rb 22 cur) : Wr (w.setCell ⟨rb, j, none⟩ u) G (some ⟨rb, 0, none⟩) m (j + 1) := fun hp => by
  obtain ⟨rb', cur', h1, h2, h3, h4, h5⟩ := h hp
  obtain rfl : rb' = rb := by injection h1 with h1; injection h1 with h1; exact h1.symm
  have := h2.inj hb
  subst this
  refine ⟨rb', _, rfl, h2.set_ j u, by rw [Array.size_setIfInBounds]; exact h3, h4, fun i hi him => ?_⟩
  obtain ⟨b', off, n, cu', q1, q2, q3, q4, q5, q6⟩ := h5 i (by omega) him
  exact ⟨b', off, n, cu', by rw [Array.getElem?_setIfInBounds, if_neg (by omega)]; exact q1, q2, q3, q4.far (fun e => q4.ne_ h2 (by decide) e) u, q5, q6⟩
theorem Rk.reset {w : World} {q : Nat} {A : Option Addr} {n c : Nat} {h : List UInt8} (H : Rk w q A n c h) : Rk (w.setCell ⟨q, 0, none⟩ (.slice none 0 0)) q none 0 0 [] :=
  ⟨H.blk.set_ 0 _, bs_nil _ _, Nat.le_refl _, fun _ => rfl, fun k hk => by obtain ⟨_, _, e⟩ := hk; cases e⟩
theorem footR_none {q k : Nat} (h : footR q none k) : k = q := by
  rcases h with h | ⟨_, _, e⟩
  · exact h
  · cases e

set_option maxRecDepth 20000 in
set_option maxHeartbeats 8000000 in
theorem linkFeeds_walk (A1 : Option Addr) (n1 c1 : Nat) (ls : List (List UInt8)) (rs : Int) (W : World) (hls : Ls W A1 n1 ls) :
    Calls Try.prog 4 #[.slice A1 n1 c1, .int .i64 rs] W fun e w' => e = .returned (.bool true) ∧ Below W.heap.size W w' := by
  have HLS := Lib.hid hls
  have HN1 := Lib.hid hls.2.1
  clear hls
  have hbuild : ∀ W, (Instr.build 33 #[]).run Try.prog W = .ok (.agg #[.slice none 0 0]) W := fun W => by kernel_rfl
  go_enter Try.func4, Try.ntmps4
  go_upto_region 2 with (go_at_call 9; refine (shown_walk _).mono ?_; rintro e w1 ⟨rfl, ht1⟩)
  have HT1 := Lib.hid ht1
  clear ht1
  go_upto_region 3 with (go_at_call 12; refine (newL_walk _).mono ?_; rintro e w2 ⟨p, rfl, hL2, ht2, hp⟩)
  have HX := Lib.hid (lkn_new (B := W.heap.size) hL2 (Nat.le_trans HT1.out.size hp))
  have HT2 := Lib.hid (HT1.out.trans ht2 (fun _ _ e => e))
  clear hL2 ht2 hp HT1
  go_upto_region 4 with fail
  have hbk := Blk.new w2 33 #[.slice none 0 0]
  have ht3 := (Turn.refl nowhere w2).alloc (.cells #[.slice none 0 0] 33)
  obtain ⟨q, hq⟩ : ∃ q, q = w2.heap.size := ⟨_, rfl⟩
  rw [← hq] at hbk ⊢
  have HY := Lib.hid (show Rk _ q none 0 0 [] from ⟨hbk, bs_nil _ _, Nat.le_refl _, fun _ => rfl, fun k hk => by obtain ⟨_, _, e⟩ := hk; cases e⟩)
  have HYN := Lib.hid (show W.heap.size ≤ q from by rw [hq]; exact HT2.out.size)
  have HAP := Lib.hid (show apart (footR q none) (foot p (.slice none 0 0)) from fun k hk e => by
    have h1 := HX.out.lk.lt k e
    have h2 := footR_none hk
    omega)
  have HX := Lib.hid (HX.out.still ht3)
  have HT3 := Lib.hid (HT2.out.trans ht3 (fun _ _ e => e))
  clear hbk ht3 hbuild HT2
  generalize World.alloc w2 (.cells #[.slice none 0 0] 33) = w3 at *
  clear hq
  go_wp2_with fail
  go_loopg [8, 9, 10, 11, 12, 13, 14, 15, 16, 17] n1 (fun gk iv x9 x10 x11 x12 x13 x14 x15 x16 x17 wr => ∃ (k : Nat) (vx : Value) (h : List UInt8) (Aq : Option Addr) (nq cq : Nat), k + gk = n1 ∧ iv = .int .i64 (k : Int) ∧ LkN W.heap.size wr p vx h ∧ Rk wr q Aq nq cq h ∧ (∀ k, footR q Aq k → W.heap.size ≤ k) ∧ apart (footR q Aq) (foot p vx) ∧ h.length < 514 ∧ Turn nowhere W wr)
  case atStart => exact ⟨0, _, [], none, 0, 0, by omega, rfl, HX.out, HY.out, fun k hk => by rw [footR_none hk]; exact HYN.out, HAP.out, by decide, HT3.out⟩
  clear HX HY HYN HAP HT3
  obtain ⟨k, vx, h, Aq, nq, cq, hkl, rfl, hX, hY, hYN, hAP, hh, htr⟩ := hrel
  have HKL := Lib.hid hkl
  clear hkl
  by_cases hk1 : k < n1
  · have y1 : (k : Int) < (n1 : Int) := by omega
    have y0 : (n1 : Int) ≤ 1048576 := by have := HN1.out; omega
    have HK1 := Lib.hid hk1
    clear hk1
    by_cases hrs : (k : Int) = rs
    · have HX := Lib.hid hX
      have HY := Lib.hid hY
      have HTR := Lib.hid htr
      have HAP := Lib.hid hAP
      have HYN := Lib.hid hYN
      have HRS := Lib.hid hrs
      clear hX hY hYN hAP hh htr hrs
      go_upto_region 9 with fail
      refine wp_region_lit ?_
      refine wpList_run (v := .int .i64 (k : Int)) rfl (exec_move rfl rfl) ?_
      simp only [Act.put, List.setIfInBounds_toArray, List.set_cons_zero, List.set_cons_succ]
      refine wpList_run (v := .int .i64 rs) rfl (exec_move rfl rfl) ?_
      simp only [Act.put, List.setIfInBounds_toArray, List.set_cons_zero, List.set_cons_succ]
      refine wpList_run (v := .bool true) rfl (ix_eql rfl rfl rfl (decide_eq_true HRS.out)) ?_
      simp only [Act.put, List.setIfInBounds_toArray, List.set_cons_zero, List.set_cons_succ]

      clear HRS
      go_upto_region 11 with (go_at_call 13; refine (reset_walk HX.out.lk).mono ?_; rintro e w5 ⟨rfl, hL5, ht5⟩)
      have HX5 := Lib.hid (show LkN W.heap.size w5 p (.slice none 0 0) [] from lkn_new hL5 (HX.out.new p (.inl rfl)))
      have HY5 := Lib.hid (HY.out.turn ht5 (fun k hk e => HAP.out k hk (.inl e)))
      have HT5 := Lib.hid (turn_new HTR.out ht5 (fun k hk => HX.out.new k (.inl hk)))
      have hqp : q ≠ p := fun e => HAP.out q (.inl rfl) (.inl e)
      have c0 := HY5.out.blk.cell 0
      have f0 := HY5.out.blk.frozen 0
      have HST := Lib.hid (show ∃ (vx : Value) (h : List UInt8) (Aq : Option Addr) (nq cq : Nat), LkN W.heap.size (w5.setCell ⟨q, 0, none⟩ (.slice none 0 0)) p vx h ∧ Rk (w5.setCell ⟨q, 0, none⟩ (.slice none 0 0)) q Aq nq cq h ∧ (∀ k, footR q Aq k → W.heap.size ≤ k) ∧ apart (footR q Aq) (foot p vx) ∧ h.length < 514 ∧ Turn nowhere W (w5.setCell ⟨q, 0, none⟩ (.slice none 0 0)) from by
        refine ⟨.slice none 0 0, [], none, 0, 0, HX5.out.turn ((Turn.refl (only q) w5).at_ 0 _) (fun k hk e => ?_), HY5.out.reset, fun k hk => by rw [footR_none hk]; exact HYN.out q (.inl rfl), fun k hk e => ?_, by decide, turn_new HT5.out ((Turn.refl (only q) w5).at_ 0 _) (fun k hk => by rw [show k = q from hk]; exact HYN.out q (.inl rfl))⟩
        · have e1 : k = q := e
          rcases hk with h1 | h1
          · exact hqp (by rw [← e1, h1])
          · cases h1
        · have e1 := footR_none hk
          rcases e with h1 | h1
          · exact hqp (by rw [← e1, h1])
          · cases h1)
      clear hL5 ht5 hqp HX HY HTR HAP HYN HX5 HY5 HT5
      go_upto_region 12 with fail
      clear c0 f0
      generalize World.setCell w5 ⟨q, 0, none⟩ (.slice none 0 0) = w4 at *
      obtain ⟨vx, h, Aq, nq, cq, hX, hY, hYN, hAP, hh, htr⟩ := HST.out
      clear HST
      have HX := Lib.hid hX
      have HY := Lib.hid hY
      have HYN := Lib.hid hYN
      have HAP := Lib.hid hAP
      have HH := Lib.hid hh
      have HTR := Lib.hid htr
      clear hX hY hYN hAP hh htr
      obtain ⟨lb, lo, la, lm, lc, lv, rfl, hlv, hcell, hlb, hlc, hlm⟩ := (HLS.out.still HTR.out).at_ HK1.out
      obtain ⟨Ao, co, wo, hruno, hown, hto, hnewo⟩ := copy_src (ty := 22) hlb hlc (by omega)
      have HLM := Lib.hid hlm
      have HLL := Lib.hid hlv
      have HLN := Lib.hid hlb.1
      have HRUN := Lib.hid hruno
      have HO := Lib.hid hown
      have HON := Lib.hid (show ∀ k, ob (.slice Ao lm co) k → W.heap.size ≤ k from fun k hk => Nat.le_trans HTR.out.size (hnewo k hk))
      have HXO := Lib.hid (show apart (foot p vx) (ob (.slice Ao lm co)) from apart_new HX.out.lk.lt hnewo)
      have HYO := Lib.hid (show apart (footR q Aq) (ob (.slice Ao lm co)) from apart_new HY.out.lt hnewo)
      have HX := Lib.hid (HX.out.still hto)
      have HY := Lib.hid (HY.out.turn hto (fun _ _ e => e))
      have HTO := Lib.hid (HTR.out.trans hto (fun _ _ e => e))
      clear hlb hlc hlm hlv hruno hown hto hnewo
      go_upto_region 12 with fail
      refine wp_region_lit ?_
      refine wpList_run (v := .slice (some ⟨w4.heap.size, 0, none⟩) 0 0) (w' := w4.alloc (.cells #[] 5)) rfl (exec_buildNone rfl (build_noneB _)) ?_
      simp only [Act.put, List.setIfInBounds_toArray, List.set_cons_zero, List.set_cons_succ]
      refine wpList_run (v := .slice (some ⟨lb, lo, none⟩) n1 c1) rfl (exec_move rfl rfl) ?_
      simp only [Act.put, List.setIfInBounds_toArray, List.set_cons_zero, List.set_cons_succ]
      refine wpList_run (v := .int .i64 (k : Int)) rfl (exec_move rfl rfl) ?_
      simp only [Act.put, List.setIfInBounds_toArray, List.set_cons_zero, List.set_cons_succ]
      refine wpList_run (v := .pointer (some ⟨lb, lo + k, none⟩)) rfl (gx_iaddr (i := k) (sz := 1) rfl rfl rfl Try.underlying28 (by kernel_rfl) HK1.out (by omega)) ?_
      simp only [Act.put, List.setIfInBounds_toArray, List.set_cons_zero, List.set_cons_succ]
      refine wpList_run (v := .slice la lm lc) rfl (lx_sl rfl rfl (by rw [World.cell?_of_block (Below.heap_alloc w4 _ lb (World.block_lt_of_cell? _ _ hcell))]; exact hcell)) ?_
      simp only [Act.put, List.setIfInBounds_toArray, List.set_cons_zero, List.set_cons_succ]
      refine wpList_run (v := .slice Ao lm co) (w' := wo) rfl (exec_append rfl rfl rfl HRUN.out) ?_
      simp only [Act.put, List.setIfInBounds_toArray, List.set_cons_zero, List.set_cons_succ]
      clear hcell HRUN
      have hw1 := feed_walk (c := co) HX.out.lk HO.out.bs.1 HO.out.bs.2.2 (by have := HH.out; have := HLM.out; omega)
      have HW1 := Lib.hid hw1
      clear hw1
      go_upto_region 14 with (go_at_call 14; refine HW1.out.mono ?_; rintro e w6 ⟨fv6, v6, rfl, hL6, hf6, ht6, hs6⟩)
      obtain ⟨fA6, fc6, rfl⟩ := hf6.form
      have HX6 := Lib.hid (fed_new HX.out hL6 HTO.out.size hs6)
      have HO6 := Lib.hid (HO.out.turn ht6 (fun k hk e => HXO.out k e hk))
      have HXO6 := Lib.hid (fed_apart (ob_lt HO.out) HXO.out.symm hs6).symm
      have HY6 := Lib.hid (HY.out.turn ht6 HAP.out)
      have HAP6 := Lib.hid (fed_apart HY.out.lt HAP.out hs6)
      have HT6 := Lib.hid (turn_new HTO.out ht6 HX.out.new)
      have HGO := Lib.hid (show apart (fun k => (wo.heap.size ≤ k ∨ vx.ownBlock = some k) ∧ ¬ foot p v6 k) (ob (.slice Ao lm co)) from fun k hk e => by
        rcases hk.1 with h1 | h1
        · have := ob_lt HO.out k e
          omega
        · exact HXO.out k (.inr h1) e)
      have HGY := Lib.hid (show ∀ k, ((wo.heap.size ≤ k ∨ vx.ownBlock = some k) ∧ ¬ foot p v6 k) → ¬ footR q Aq k from fun k hk e => by
        rcases hk.1 with h1 | h1
        · have := HY.out.lt k e
          omega
        · exact HAP.out k e (.inr h1))
      have HGW := Lib.hid (show ∀ k, ((wo.heap.size ≤ k ∨ vx.ownBlock = some k) ∧ ¬ foot p v6 k) → W.heap.size ≤ k from fun k hk => by
        rcases hk.1 with h1 | h1
        · have := HTO.out.size
          omega
        · exact HX.out.new k (.inr h1))
      have HF6 := Lib.hid hf6
      have hrt := feed_right (h ++ lv)
      have hcnt := fs_count (h ++ lv)
      have hll : (h ++ lv).length ≤ 1049090 := by rw [List.length_append]; have := HLN.out; have := HLM.out; have := HH.out; omega
      have HRT := Lib.hid hrt
      have HCN := Lib.hid (show (feed (h ++ lv)).fs.length ≤ 1049090 by omega)
      have HRL := Lib.hid (rest_len (h ++ lv))
      clear hL6 hf6 ht6 hs6 HW1 HX HO HXO HAP hrt hcnt hll
      obtain ⟨m, hm⟩ : ∃ m, m = (feed (h ++ lv)).fs.length := ⟨_, rfl⟩
      rw [← hm] at HF6 HCN ⊢
      have HM := Lib.hid hm
      clear hm
      go_wp2_with fail
      go_loopg [12] lm (fun gk iv wr2 => ∃ j : Nat, j + gk = lm ∧ iv = .int .i64 (j : Int) ∧ Turn (own_of Ao) w6 wr2 ∧ (0 < lm → ∃ g cur, Ao = some ⟨g, 0, none⟩ ∧ Blk wr2 g 5 cur ∧ lm ≤ cur.size))
      case atStart => exact ⟨0, by omega, rfl, Turn.refl _ _, fun h => blk_of_own HO6.out h⟩
      obtain ⟨j, hjl, rfl, htr2, hcur⟩ := hrel
      have HJL := Lib.hid hjl
      have HTR2 := Lib.hid htr2
      clear hjl htr2
      by_cases hjm : j < lm
      · obtain ⟨g, cur, rfl, hbk, hsz⟩ := hcur (by omega)
        have y3 : (j : Int) < (lm : Int) := by omega
        have y4 : (lm : Int) ≤ 1048576 := by have := HLM.out; omega
        have HJM := Lib.hid hjm
        have HBK := Lib.hid hbk
        have HSZ := Lib.hid hsz
        clear hjm hbk hsz hcur
        obtain ⟨w0, hw0⟩ : ∃ w0, w0 = wr := ⟨_, rfl⟩
        go_upto_region 17 with fail
        refine wp_region_lit ?_
        refine wpList_run (v := .slice (some ⟨g, 0, none⟩) lm co) rfl (exec_move rfl rfl) ?_
        simp only [Act.put, List.setIfInBounds_toArray, List.set_cons_zero, List.set_cons_succ]
        refine wpList_run (v := .int .i64 (j : Int)) rfl (exec_move rfl rfl) ?_
        simp only [Act.put, List.setIfInBounds_toArray, List.set_cons_zero, List.set_cons_succ]
        refine wpList_run (v := .pointer (some ⟨g, j, none⟩)) rfl (gx_iaddr (i := j) (sz := 1) rfl rfl rfl Try.underlying22 (by kernel_rfl) HJM.out (by omega)) ?_
        simp only [Act.put, List.setIfInBounds_toArray, List.set_cons_zero, List.set_cons_succ]
        refine wpList_store1 (g := g) (i := j) (v := .int .u8 77) rfl 5 (.tmp 62) (.const (.int .u8 77)) rfl HBK.out rfl rfl (by have := HJM.out; have := HSZ.out; omega) (by rfl) (by rfl) (by kernel_rfl) ?_
        intro hb5 ht5
        simp only [Act.put, List.setIfInBounds_toArray, List.set_cons_zero, List.set_cons_succ]

        have HB5 := Lib.hid hb5
        have HT5 := Lib.hid ht5
        clear hb5 ht5
        generalize World.setCell _ ⟨g, j, none⟩ (.int .u8 77) = w5 at *
        go_wp2_with fail
        go_roundg (gk - 1)
        case measure => have := HJL.out; have := HJM.out; omega
        case rel => exact ⟨j + 1, by have := HJL.out; have := HJM.out; omega, by go_num, HTR2.out.trans HT5.out (fun i _ e => by have e1 : i = g := e; subst e1; exact ⟨0, none, rfl⟩), fun _ => ⟨g, _, rfl, HB5.out, by rw [Array.size_setIfInBounds]; exact HSZ.out⟩⟩
      · have y3 : ¬ ((j : Int) < (lm : Int)) := by omega
        have HX7 := Lib.hid (HX6.out.turn HTR2.out (fun k hk e => HXO6.out k hk (own_block HO6.out e)))
        have HY7 := Lib.hid (HY6.out.turn HTR2.out (fun k hk e => HYO.out k hk (own_block HO6.out e)))
        have HF7 := Lib.hid (HF6.out.turn HTR2.out (fun k hk e => HGO.out k hk (own_block HO6.out e)))
        have HT7 := Lib.hid (turn_new HT6.out HTR2.out (fun k hk => HON.out k (own_block HO6.out hk)))
        have HSZ7 := Lib.hid HTR2.out.size
        clear hjm hcur HTR2 HX6 HO6 HXO6 HY6 HF6 HGO HYO HON
        generalize hwr : wr = w7 at *
        clear hwr
        obtain ⟨lb', lo', la', lm', lc', lv', elb, hlv', hcell, hlb', hlc', hlm'⟩ := (HLS.out.still HT7.out).at_ HK1.out
        obtain ⟨rfl, rfl⟩ : lb = lb' ∧ lo = lo' := by injection elb with e; injection e with e1 e2; exact ⟨e1, e2⟩
        obtain rfl : lv = lv' := Option.some.inj (HLL.out.symm.trans hlv')
        have hw1 := rfeed_walk (c := lc') HY7.out hlb' hlc' (by have := HH.out; omega)
        have HW1 := Lib.hid hw1
        clear hw1 hlb' hlc' hlm' hlv' elb
        go_upto_region 18 with fail
        refine wp_region_lit ?_
        refine wpList_run (v := .pointer (some ⟨q, 0, none⟩)) rfl (exec_move rfl rfl) ?_
        simp only [Act.put, List.setIfInBounds_toArray, List.set_cons_zero, List.set_cons_succ]
        refine wpList_run (v := .slice (some ⟨lb, lo, none⟩) n1 c1) rfl (exec_move rfl rfl) ?_
        simp only [Act.put, List.setIfInBounds_toArray, List.set_cons_zero, List.set_cons_succ]
        refine wpList_run (v := .int .i64 (k : Int)) rfl (exec_move rfl rfl) ?_
        simp only [Act.put, List.setIfInBounds_toArray, List.set_cons_zero, List.set_cons_succ]
        refine wpList_run (v := .pointer (some ⟨lb, lo + k, none⟩)) rfl (gx_iaddr (i := k) (sz := 1) rfl rfl rfl Try.underlying28 (by kernel_rfl) HK1.out (by omega)) ?_
        simp only [Act.put, List.setIfInBounds_toArray, List.set_cons_zero, List.set_cons_succ]
        refine wpList_run (v := .slice la' lm' lc') rfl (lx_sl rfl rfl hcell) ?_
        simp only [Act.put, List.setIfInBounds_toArray, List.set_cons_zero, List.set_cons_succ]

        clear hcell
        go_wp2_with fail
        refine HW1.out.mono ?_
        rintro e w8 ⟨fv8, A8, n8, c8, rfl, hR8, hf8, ht8, hn8⟩
        simp only [Act.put, List.setIfInBounds_toArray, List.set_cons_zero, List.set_cons_succ]
        rename_i K6 hK6
        refine hK6 _ _ ?_
        clear hK6 K6

        obtain ⟨fA8, fc8, rfl⟩ := hf8.form
        have HX8 := Lib.hid (HX7.out.turn ht8 (fun k hk e => HAP6.out k (.inl e) hk))
        have HY8 := Lib.hid hR8
        have HAP8 := Lib.hid (show apart (footR q A8) (foot p v6) from fun k hk e => by
          rcases hk with h1 | h1
          · exact HAP6.out k (.inl h1) e
          · have h2 := hn8 k h1
            have h3 := HX7.out.lk.lt k e
            omega)
        have HYN8 := Lib.hid (show ∀ k, footR q A8 k → W.heap.size ≤ k from fun k hk => by
          rcases hk with h1 | h1
          · exact HYN.out k (.inl h1)
          · exact Nat.le_trans HT7.out.size (hn8 k h1))
        have HT8 := Lib.hid (turn_new HT7.out ht8 (fun k hk => HYN.out k (.inl hk)))
        have HF8 := Lib.hid ((HF7.out.mono (G' := fun k => ((wo.heap.size ≤ k ∨ vx.ownBlock = some k) ∧ ¬ foot p v6 k) ∧ k < w7.heap.size) (fun k hk hlt => ⟨hk, hlt⟩)).turn ht8 (fun k hk e => HGY.out k hk.1 (.inl e)))
        have HGY8 := Lib.hid (show ∀ k, (((wo.heap.size ≤ k ∨ vx.ownBlock = some k) ∧ ¬ foot p v6 k) ∧ k < w7.heap.size) → ¬ footR q A8 k from fun k hk e => by
          rcases e with h1 | h1
          · exact HGY.out k hk.1 (.inl h1)
          · have := hn8 k h1
            omega)
        have hsame := same_walk HF8.out.frr hf8 (by rw [← HM.out]; have := HCN.out; omega)
        rw [decide_eq_true rfl, ← HM.out] at hsame
        rw [← HM.out]
        have HS := Lib.hid hsame
        clear hR8 hf8 ht8 hn8 hsame HW1 HX7 HY7 HF7 HT7 HY HYN HAP6 HGY
        generalize ec (feed (h ++ lv)).ok = e1 at *
        generalize (feed (h ++ lv)).rest = r at *
        generalize (feed (h ++ lv)).fs = fs at *
        obtain ⟨rl, hrl⟩ : ∃ rl, rl = r.length := ⟨_, rfl⟩
        have HRLE := Lib.hid hrl
        clear hrl
        go_upto_region 20 with (go_at_call 16; refine HS.out.mono ?_; rintro e w9 ⟨rfl, ht9⟩)
        have HX9 := Lib.hid (HX8.out.still ht9)
        have HY9 := Lib.hid (HY8.out.turn ht9 (fun _ _ e => e))
        have HF9 := Lib.hid (HF8.out.turn ht9 (fun _ _ e => e))
        have HT9 := Lib.hid (HT8.out.trans ht9 (fun _ _ e => e))
        clear ht9 HS HX8 HY8 HF8 HT8
        have hnr : n8 = rl := by have := HY9.out.bs.1; have := HRLE.out; omega
        have HNR := Lib.hid hnr
        clear hnr
        have hdr : Turn nowhere w9 w9.drew := Turn.drew (Turn.refl nowhere w9)
        have hS : Lk w9.drew p v6 r ∧ Rk w9.drew q A8 n8 c8 r := ⟨(HX9.out.still hdr).lk, HY9.out.turn hdr (fun _ _ e => e)⟩
        refine wp_region_alw (fun W => Lk W p v6 r ∧ Rk W q A8 n8 c8 r) (by kernel_rfl) ?_
        refine alw_take (i := 0) (v := .bool true) rfl (by kernel_rfl) (by kernel_rfl) (fun _ _ _ h => h) (.inl ⟨by rfl, fun W hW => exec_move rfl rfl⟩) hS ?_
        simp only [Act.put, List.setIfInBounds_toArray, List.set_cons_zero, List.set_cons_succ]
        refine alw_take (i := 1) (v := .bool false) rfl (by kernel_rfl) (by kernel_rfl) (fun _ _ _ h => h) (.inl ⟨by rfl, fun W hW => ix_not (b := true) rfl rfl⟩) hS ?_
        simp only [Act.put, List.setIfInBounds_toArray, List.set_cons_zero, List.set_cons_succ]
        refine alw_take (i := 2) (v := .bool false) rfl (by kernel_rfl) (by kernel_rfl) (fun _ _ _ h => h) (.inl ⟨by rfl, fun W hW => exec_move rfl rfl⟩) hS ?_
        simp only [Act.put, List.setIfInBounds_toArray, List.set_cons_zero, List.set_cons_succ]
        refine alw_take (i := 3) (v := .int .i64 e1) rfl (by kernel_rfl) (by kernel_rfl) (fun _ _ _ h => h) (.inl ⟨by rfl, fun W hW => exec_move rfl rfl⟩) hS ?_
        simp only [Act.put, List.setIfInBounds_toArray, List.set_cons_zero, List.set_cons_succ]
        refine alw_take (i := 4) (v := .int .i64 e1) rfl (by kernel_rfl) (by kernel_rfl) (fun _ _ _ h => h) (.inl ⟨by rfl, fun W hW => exec_move rfl rfl⟩) hS ?_
        simp only [Act.put, List.setIfInBounds_toArray, List.set_cons_zero, List.set_cons_succ]
        refine alw_take (i := 5) (v := .bool false) rfl (by kernel_rfl) (by kernel_rfl) (fun _ _ _ h => h) (.inl ⟨by rfl, fun W hW => ix_neq rfl rfl rfl (by simp)⟩) hS ?_
        simp only [Act.put, List.setIfInBounds_toArray, List.set_cons_zero, List.set_cons_succ]
        refine alw_take (i := 6) (v := .bool false) rfl (by kernel_rfl) (by kernel_rfl) (fun _ _ _ h => h) (.inl ⟨by rfl, fun W hW => ix_pickF rfl rfl rfl⟩) hS ?_
        simp only [Act.put, List.setIfInBounds_toArray, List.set_cons_zero, List.set_cons_succ]
        refine alw_take (i := 7) (v := .bool false) rfl (by kernel_rfl) (by kernel_rfl) (fun _ _ _ h => h) (.inl ⟨by rfl, fun W hW => exec_move rfl rfl⟩) hS ?_
        simp only [Act.put, List.setIfInBounds_toArray, List.set_cons_zero, List.set_cons_succ]
        refine alw_take (i := 8) (v := .pointer (some ⟨p, 0, none⟩)) rfl (by kernel_rfl) (by kernel_rfl) (fun _ _ _ h => h) (.inl ⟨by rfl, fun W hW => exec_move rfl rfl⟩) hS ?_
        simp only [Act.put, List.setIfInBounds_toArray, List.set_cons_zero, List.set_cons_succ]
        refine alw_take (i := 10) (v := .pointer (some ⟨q, 0, none⟩)) rfl (by kernel_rfl) (by kernel_rfl) (fun _ _ _ h => h) (.inl ⟨by rfl, fun W hW => exec_move rfl rfl⟩) hS ?_
        simp only [Act.put, List.setIfInBounds_toArray, List.set_cons_zero, List.set_cons_succ]
        refine alw_take (i := 11) (v := .pointer (some ⟨q, 0, none⟩)) rfl (by kernel_rfl) (by kernel_rfl) (fun _ _ _ h => h) (.inl ⟨by rfl, fun W hW => exec_nil rfl rfl⟩) hS ?_
        simp only [Act.put, List.setIfInBounds_toArray, List.set_cons_zero, List.set_cons_succ]
        refine alw_take (i := 12) (v := .pointer (some ⟨q, 0 + 0, none⟩)) rfl (by kernel_rfl) (by kernel_rfl) (fun _ _ _ h => h) (.inl ⟨by rfl, fun W hW => exec_field (off := 0) (d := 0) rfl rfl (by kernel_rfl)⟩) hS ?_
        simp only [Act.put, List.setIfInBounds_toArray, List.set_cons_zero, List.set_cons_succ]
        refine alw_take (i := 13) (v := .slice A8 n8 c8) rfl (by kernel_rfl) (by kernel_rfl) (fun _ _ _ h => h) (.inl ⟨by rfl, fun W hW => lx_sl rfl rfl (hW.2.blk.cell 0)⟩) hS ?_
        simp only [Act.put, List.setIfInBounds_toArray, List.set_cons_zero, List.set_cons_succ]
        refine alw_take (i := 14) (v := .int .i64 (n8 : Int)) rfl (by kernel_rfl) (by kernel_rfl) (fun _ _ _ h => h) (.inl ⟨by rfl, fun W hW => lx_blen rfl rfl⟩) hS ?_
        simp only [Act.put, List.setIfInBounds_toArray, List.set_cons_zero, List.set_cons_succ]

        refine alw_step (i := 9) (by kernel_rfl) rfl rfl ?_
        intro K9 HK9
        go_wp2_with fail
        refine (held_walk hS.1).mono ?_
        rintro e w10 ⟨rfl, rfl⟩
        refine HK9.out _ _ ⟨hS, ?_⟩
        clear HK9
        refine alw_take (i := 15) (v := .bool false) rfl (by kernel_rfl) (by kernel_rfl) (fun _ _ _ h => h) (.inl ⟨by rfl, fun W hW => ix_neq (i := (r.length : Int)) (j := (n8 : Int)) rfl rfl rfl (by have := HNR.out; have := HRLE.out; simp; omega)⟩) hS ?_
        simp only [Act.put, List.setIfInBounds_toArray, List.set_cons_zero, List.set_cons_succ]
        refine alw_take (i := 16) (v := .bool false) rfl (by kernel_rfl) (by kernel_rfl) (fun _ _ _ h => h) (.inl ⟨by rfl, fun W hW => ix_pickF rfl rfl rfl⟩) hS ?_
        simp only [Act.put, List.setIfInBounds_toArray, List.set_cons_zero, List.set_cons_succ]

        refine alw_done (by kernel_rfl) ?_
        refine NoPanic.normal ?_
        clear hS
        have HX10 := Lib.hid (HX9.out.still hdr)
        have HY10 := Lib.hid (HY9.out.turn hdr (fun _ _ e => e))
        have HF10 := Lib.hid (HF9.out.turn hdr (fun _ _ e => e))
        have HT10 := Lib.hid (HT9.out.trans hdr (fun _ _ e => e))
        clear hdr HX9 HY9 HF9 HT9
        generalize World.drew w9 = w10 at *
        have HG8 := Lib.hid (show ∀ k, (((wo.heap.size ≤ k ∨ vx.ownBlock = some k) ∧ ¬ foot p v6 k) ∧ k < w7.heap.size) → ¬ foot p v6 k ∧ ¬ footR q A8 k ∧ W.heap.size ≤ k from fun k hk => ⟨hk.1.2, HGY8.out k hk, HGW.out k hk.1⟩)
        generalize hG : (fun k => ((wo.heap.size ≤ k ∨ vx.ownBlock = some k) ∧ ¬ foot p v6 k) ∧ k < w7.heap.size) = G at HF10
        have HG8' := Lib.hid (show ∀ k, G k → ¬ foot p v6 k ∧ ¬ footR q A8 k ∧ W.heap.size ≤ k from fun k hk => HG8.out k (by rw [← hG] at hk; exact hk))
        clear hG HG8 HGY8 HGW
        have HWR := Lib.hid (wr_of HF10.out HM.out.symm HRT.out)
        clear HF10 HRT
        go_upto_region 22 with fail
        go_wp2_with fail
        go_loopg [16, 17] m (fun gk iv x17 wr3 => ∃ j : Nat, j + gk = m ∧ iv = .int .i64 (j : Int) ∧ Wr wr3 G fA6 m j ∧ LkN W.heap.size wr3 p v6 r ∧ Rk wr3 q A8 n8 c8 r ∧ Turn nowhere W wr3)
        case atStart => exact ⟨0, by omega, rfl, HWR.out, HX10.out, HY10.out, HT10.out⟩
        clear HWR HX10 HY10 HT10
        obtain ⟨j, hjl, rfl, hwr, hX, hY, htr⟩ := hrel
        have HJL := Lib.hid hjl
        have HWR := Lib.hid hwr
        have HX := Lib.hid hX
        have HY := Lib.hid hY
        have HTR := Lib.hid htr
        clear hjl hwr hX hY htr
        by_cases hjm : j < m
        · obtain ⟨rb, cur, rfl, hrb, hms, hGr, hel⟩ := HWR.out (by omega)
          obtain ⟨b, off, n, cu, hcj, hnp, hn5, hbb, hos, hGb⟩ := hel j (Nat.le_refl _) hjm
          have y3 : (j : Int) < (m : Int) := by omega
          have y4 : (m : Int) ≤ 1049090 := by have := HCN.out; omega
          have HJM := Lib.hid hjm
          have HNP := Lib.hid hnp
          have HN5 := Lib.hid hn5
          have HMS := Lib.hid hms
          have HGR := Lib.hid hGr
          have HGB := Lib.hid hGb
          have HCJ := Lib.hid hcj
          have HRB := Lib.hid hrb
          have HBB := Lib.hid (show ∃ cu, Blk wr b 5 cu ∧ off + n ≤ cu.size from ⟨cu, hbb, hos⟩)
          clear hrb hms hGr hel hcj hnp hn5 hbb hos hGb hjm
          go_upto_region 25 with fail
          go_wp2_with fail
          go_loopg [17] n (fun gk iv wr4 => ∃ i2 : Nat, i2 + gk = n ∧ iv = .int .i64 (i2 : Int) ∧ Wr wr4 G (some ⟨rb, 0, none⟩) m j ∧ Blk wr4 rb 22 cur ∧ (∃ cu, Blk wr4 b 5 cu ∧ off + n ≤ cu.size) ∧ LkN W.heap.size wr4 p v6 r ∧ Rk wr4 q A8 n8 c8 r ∧ Turn nowhere W wr4)
          case atStart => exact ⟨0, by omega, rfl, HWR.out, HRB.out, HBB.out, HX.out, HY.out, HTR.out⟩
          clear HWR HRB HBB HX HY HTR
          obtain ⟨i2, hil, rfl, hwr, hrb, hbb, hX, hY, htr⟩ := hrel
          have HIL := Lib.hid hil
          have HWR := Lib.hid hwr
          have HRB := Lib.hid hrb
          have HBB := Lib.hid hbb
          have HX := Lib.hid hX
          have HY := Lib.hid hY
          have HTR := Lib.hid htr
          have hcell : wr.cell? ⟨rb, j, none⟩ = some (.slice (some ⟨b, off, none⟩) n n) := by rw [hrb.cell j, HCJ.out]
          clear hil hwr hrb hbb hX hY htr
          go_upto_region 26 with fail
          refine wp_region_lit ?_
          refine wpList_run (v := .int .i64 (i2 : Int)) rfl (exec_move rfl rfl) ?_
          simp only [Act.put, List.setIfInBounds_toArray, List.set_cons_zero, List.set_cons_succ]
          refine wpList_run (v := .slice (some ⟨rb, 0, none⟩) m fc6) rfl (exec_move rfl rfl) ?_
          simp only [Act.put, List.setIfInBounds_toArray, List.set_cons_zero, List.set_cons_succ]
          refine wpList_run (v := .int .i64 (j : Int)) rfl (exec_move rfl rfl) ?_
          simp only [Act.put, List.setIfInBounds_toArray, List.set_cons_zero, List.set_cons_succ]
          refine wpList_run (v := .pointer (some ⟨rb, j, none⟩)) rfl (gx_iaddr (i := j) (sz := 1) rfl rfl rfl Try.underlying28 (by kernel_rfl) HJM.out (by omega)) ?_
          simp only [Act.put, List.setIfInBounds_toArray, List.set_cons_zero, List.set_cons_succ]
          refine wpList_run (v := .slice (some ⟨b, off, none⟩) n n) rfl (lx_sl rfl rfl hcell) ?_
          simp only [Act.put, List.setIfInBounds_toArray, List.set_cons_zero, List.set_cons_succ]
          refine wpList_run (v := .int .i64 (n : Int)) rfl (lx_blen rfl rfl) ?_
          simp only [Act.put, List.setIfInBounds_toArray, List.set_cons_zero, List.set_cons_succ]

          by_cases hin : i2 < n
          · have y5 : (i2 : Int) < (n : Int) := by omega
            have y6 : (n : Int) ≤ 512 := by have := HN5.out; omega
            have HIN := Lib.hid hin
            obtain ⟨cu, hbb, hos⟩ := HBB.out
            have HBB1 := Lib.hid hbb
            have HOS := Lib.hid hos
            clear hin hbb hos
            go_upto_region 28 with fail
            refine wp_region_lit ?_
            refine wpList_run (v := .slice (some ⟨rb, 0, none⟩) m fc6) rfl (exec_move rfl rfl) ?_
            simp only [Act.put, List.setIfInBounds_toArray, List.set_cons_zero, List.set_cons_succ]
            refine wpList_run (v := .int .i64 (j : Int)) rfl (exec_move rfl rfl) ?_
            simp only [Act.put, List.setIfInBounds_toArray, List.set_cons_zero, List.set_cons_succ]
            refine wpList_run (v := .pointer (some ⟨rb, j, none⟩)) rfl (gx_iaddr (i := j) (sz := 1) rfl rfl rfl Try.underlying28 (by kernel_rfl) HJM.out (by omega)) ?_
            simp only [Act.put, List.setIfInBounds_toArray, List.set_cons_zero, List.set_cons_succ]
            refine wpList_run (v := .slice (some ⟨b, off, none⟩) n n) rfl (lx_sl rfl rfl hcell) ?_
            simp only [Act.put, List.setIfInBounds_toArray, List.set_cons_zero, List.set_cons_succ]
            refine wpList_run (v := .int .i64 (i2 : Int)) rfl (exec_move rfl rfl) ?_
            simp only [Act.put, List.setIfInBounds_toArray, List.set_cons_zero, List.set_cons_succ]
            refine wpList_run (v := .pointer (some ⟨b, off + i2, none⟩)) rfl (gx_iaddr (i := i2) (sz := 1) rfl rfl rfl Try.underlying22 (by kernel_rfl) HIN.out (by omega)) ?_
            simp only [Act.put, List.setIfInBounds_toArray, List.set_cons_zero, List.set_cons_succ]
            refine wpList_store1 (g := b) (i := off + i2) (v := .int .u8 99) rfl 5 (.tmp 112) (.const (.int .u8 99)) rfl HBB1.out rfl rfl (by have := HIN.out; have := HOS.out; omega) (by rfl) (by rfl) (by kernel_rfl) ?_
            intro hb5 ht5
            simp only [Act.put, List.setIfInBounds_toArray, List.set_cons_zero, List.set_cons_succ]

            have HW5 := Lib.hid (HWR.out.byte (i := off + i2) (u := .int .u8 99) HBB1.out)
            have HRB5 := Lib.hid (HRB.out.turn ht5 (fun e => HRB.out.ne_ HBB1.out (by decide) e))
            have HX5 := Lib.hid (HX.out.turn ht5 (fun k hk e => (HG8'.out b HGB.out).1 (by rw [← (show k = b from e)]; exact hk)))
            have HY5 := Lib.hid (HY.out.turn ht5 (fun k hk e => (HG8'.out b HGB.out).2.1 (by rw [← (show k = b from e)]; exact hk)))
            have HT5 := Lib.hid (turn_new HTR.out ht5 (fun k hk => by rw [show k = b from hk]; exact (HG8'.out b HGB.out).2.2))
            have HB5 := Lib.hid hb5
            clear hb5 ht5 hcell
            generalize World.setCell _ ⟨b, off + i2, none⟩ (.int .u8 99) = w5 at *
            go_wp2_with fail
            go_roundg (gk - 1)
            case measure => have := HIL.out; have := HIN.out; omega
            case rel => exact ⟨i2 + 1, by have := HIL.out; have := HIN.out; omega, by go_num, HW5.out, HRB5.out, ⟨_, HB5.out, by rw [Array.size_setIfInBounds]; exact HOS.out⟩, HX5.out, HY5.out, HT5.out⟩
          · have y5 : ¬ ((i2 : Int) < (n : Int)) := by omega
            clear hin
            obtain ⟨cu, hbb, hos⟩ := HBB.out
            obtain ⟨i0, hi0, hz0, hz1, hz2⟩ := info_parts byteInfo
            have hta := (Turn.refl nowhere wr).alloc (.cells #[.int .u8 98] 5)
            have hnb := Blk.new wr 5 #[.int .u8 98]
            obtain ⟨v9, w9, hrun9, hown9, hgr9⟩ := run_append_arg_grows (P := Try.prog) (wr.alloc (.cells #[.int .u8 98] 5)) 22 22 5 i0 _ 1 1 Try.underlying22 hi0 hz0 hz1 hz2 rfl (by omega)
              ⟨b, off, none⟩ n n ((cu.toList.drop off).take n) (by rw [List.length_take, List.length_drop, Array.length_toList]; omega) (fun j' u hj => by
                have hjn : j' < n := by
                  have := (List.getElem?_eq_some_iff.1 hj).1
                  rw [List.length_take] at this
                  omega
                rw [List.getElem?_take, if_pos hjn, List.getElem?_drop, Array.getElem?_toList] at hj
                rw [add_nat, (hbb.turn hta (fun e => e)).cell]
                exact hj) ⟨wr.heap.size, 0, none⟩ 1 1 [.int .u8 98] rfl (fun j' u hj => by
                have hj0 : j' = 0 := by
                  have := (List.getElem?_eq_some_iff.1 hj).1
                  simpa using this
                subst hj0
                rw [add_nat, hnb.cell]
                exact hj) (by omega) (by have := HN5.out; unfold maxLen; omega) (by have := HN5.out; omega)
            obtain ⟨A9, c9, rfl⟩ := own_form hown9
            have ht9 := hta.grown hgr9 (fun _ e _ => by cases e)
            have HRUN := Lib.hid hrun9
            have HW9 := Lib.hid (HWR.out.still ht9)
            have HRB9 := Lib.hid (HRB.out.turn ht9 (fun e => e))
            have HX9 := Lib.hid (HX.out.still ht9)
            have HY9 := Lib.hid (HY.out.turn ht9 (fun _ _ e => e))
            have HT9 := Lib.hid (HTR.out.trans ht9 (fun _ _ e => e))
            clear hbb hos hi0 hz0 hz1 hz2 hta hnb hrun9 hown9 hgr9 ht9 HBB
            go_upto_region 29 with fail
            refine wp_region_lit ?_
            refine wpList_run (v := .slice (some ⟨rb, 0, none⟩) m fc6) rfl (exec_move rfl rfl) ?_
            simp only [Act.put, List.setIfInBounds_toArray, List.set_cons_zero, List.set_cons_succ]
            refine wpList_run (v := .int .i64 (j : Int)) rfl (exec_move rfl rfl) ?_
            simp only [Act.put, List.setIfInBounds_toArray, List.set_cons_zero, List.set_cons_succ]
            refine wpList_run (v := .slice (some ⟨rb, 0, none⟩) m fc6) rfl (exec_move rfl rfl) ?_
            simp only [Act.put, List.setIfInBounds_toArray, List.set_cons_zero, List.set_cons_succ]
            refine wpList_run (v := .int .i64 (j : Int)) rfl (exec_move rfl rfl) ?_
            simp only [Act.put, List.setIfInBounds_toArray, List.set_cons_zero, List.set_cons_succ]
            refine wpList_run (v := .pointer (some ⟨rb, j, none⟩)) rfl (gx_iaddr (i := j) (sz := 1) rfl rfl rfl Try.underlying28 (by kernel_rfl) HJM.out (by omega)) ?_
            simp only [Act.put, List.setIfInBounds_toArray, List.set_cons_zero, List.set_cons_succ]
            refine wpList_run (v := .slice (some ⟨b, off, none⟩) n n) rfl (lx_sl rfl rfl hcell) ?_
            simp only [Act.put, List.setIfInBounds_toArray, List.set_cons_zero, List.set_cons_succ]
            refine wpList_run (v := .slice (some ⟨wr.heap.size, 0, none⟩) 1 1) (w' := wr.alloc (.cells #[.int .u8 98] 5)) rfl (exec_buildSlice1 rfl rfl (build_1 _ _)) ?_
            simp only [Act.put, List.setIfInBounds_toArray, List.set_cons_zero, List.set_cons_succ]
            refine wpList_run (v := .slice A9 (n + 1) c9) (w' := w9) rfl (exec_append rfl rfl rfl HRUN.out) ?_
            simp only [Act.put, List.setIfInBounds_toArray, List.set_cons_zero, List.set_cons_succ]
            refine wpList_run (v := .pointer (some ⟨rb, j, none⟩)) rfl (gx_iaddr (i := j) (sz := 1) rfl rfl rfl Try.underlying28 (by kernel_rfl) HJM.out (by omega)) ?_
            simp only [Act.put, List.setIfInBounds_toArray, List.set_cons_zero, List.set_cons_succ]
            refine wpList_store1 (g := rb) (i := j) (v := .slice A9 (n + 1) c9) rfl 22 (.tmp 121) (.tmp 120) rfl HRB9.out rfl rfl (by have := HJM.out; have := HMS.out; omega) (by rfl) (by rfl) (by kernel_rfl) ?_
            intro hb5 ht5
            simp only [Act.put, List.setIfInBounds_toArray, List.set_cons_zero, List.set_cons_succ]

            have HW5 := Lib.hid (HW9.out.put (u := .slice A9 (n + 1) c9) HRB9.out)
            have HX5 := Lib.hid (HX9.out.turn ht5 (fun k hk e => (HG8'.out rb HGR.out).1 (by rw [← (show k = rb from e)]; exact hk)))
            have HY5 := Lib.hid (HY9.out.turn ht5 (fun k hk e => (HG8'.out rb HGR.out).2.1 (by rw [← (show k = rb from e)]; exact hk)))
            have HT5 := Lib.hid (turn_new HT9.out ht5 (fun k hk => by rw [show k = rb from hk]; exact (HG8'.out rb HGR.out).2.2))
            clear hb5 ht5 hcell HRUN HW9 HRB9 HX9 HY9 HT9
            generalize World.setCell _ ⟨rb, j, none⟩ (.slice A9 (n + 1) c9) = w5 at *
            go_wp2_with fail
            go_roundg (m - (j + 1))
            case measure => have := HJL.out; have := HJM.out; omega
            case rel => exact ⟨j + 1, by have := HJM.out; omega, by go_num, HW5.out, HX5.out, HY5.out, HT5.out⟩
        · have y3 : ¬ ((j : Int) < (m : Int)) := by omega
          clear hjm
          go_wp2_with fail
          go_roundg (n1 - (k + 1))
          case measure => have := HKL.out; have := HK1.out; omega
          case rel => exact ⟨k + 1, v6, r, A8, n8, c8, by have := HK1.out; omega, by go_num, HX.out, HY.out, HYN8.out, HAP8.out, HRL.out, HTR.out⟩

    · have HX := Lib.hid hX
      have HY := Lib.hid hY
      have HYN := Lib.hid hYN
      have HAP := Lib.hid hAP
      have HH := Lib.hid hh
      have HTR := Lib.hid htr
      clear hX hY hYN hAP hh htr
      have HRS := Lib.hid hrs
      clear hrs
      go_upto_region 9 with fail
      refine wp_region_lit ?_
      refine wpList_run (v := .int .i64 (k : Int)) rfl (exec_move rfl rfl) ?_
      simp only [Act.put, List.setIfInBounds_toArray, List.set_cons_zero, List.set_cons_succ]
      refine wpList_run (v := .int .i64 rs) rfl (exec_move rfl rfl) ?_
      simp only [Act.put, List.setIfInBounds_toArray, List.set_cons_zero, List.set_cons_succ]
      refine wpList_run (v := .bool false) rfl (ix_eql rfl rfl rfl (decide_eq_false HRS.out)) ?_
      simp only [Act.put, List.setIfInBounds_toArray, List.set_cons_zero, List.set_cons_succ]

      clear HRS
      generalize hw4 : wr = w4 at *
      clear hw4
      obtain ⟨lb, lo, la, lm, lc, lv, rfl, hlv, hcell, hlb, hlc, hlm⟩ := (HLS.out.still HTR.out).at_ HK1.out
      obtain ⟨Ao, co, wo, hruno, hown, hto, hnewo⟩ := copy_src (ty := 22) hlb hlc (by omega)
      have HLM := Lib.hid hlm
      have HLL := Lib.hid hlv
      have HLN := Lib.hid hlb.1
      have HRUN := Lib.hid hruno
      have HO := Lib.hid hown
      have HON := Lib.hid (show ∀ k, ob (.slice Ao lm co) k → W.heap.size ≤ k from fun k hk => Nat.le_trans HTR.out.size (hnewo k hk))
      have HXO := Lib.hid (show apart (foot p vx) (ob (.slice Ao lm co)) from apart_new HX.out.lk.lt hnewo)
      have HYO := Lib.hid (show apart (footR q Aq) (ob (.slice Ao lm co)) from apart_new HY.out.lt hnewo)
      have HX := Lib.hid (HX.out.still hto)
      have HY := Lib.hid (HY.out.turn hto (fun _ _ e => e))
      have HTO := Lib.hid (HTR.out.trans hto (fun _ _ e => e))
      clear hlb hlc hlm hlv hruno hown hto hnewo
      go_upto_region 12 with fail
      refine wp_region_lit ?_
      refine wpList_run (v := .slice (some ⟨w4.heap.size, 0, none⟩) 0 0) (w' := w4.alloc (.cells #[] 5)) rfl (exec_buildNone rfl (build_noneB _)) ?_
      simp only [Act.put, List.setIfInBounds_toArray, List.set_cons_zero, List.set_cons_succ]
      refine wpList_run (v := .slice (some ⟨lb, lo, none⟩) n1 c1) rfl (exec_move rfl rfl) ?_
      simp only [Act.put, List.setIfInBounds_toArray, List.set_cons_zero, List.set_cons_succ]
      refine wpList_run (v := .int .i64 (k : Int)) rfl (exec_move rfl rfl) ?_
      simp only [Act.put, List.setIfInBounds_toArray, List.set_cons_zero, List.set_cons_succ]
      refine wpList_run (v := .pointer (some ⟨lb, lo + k, none⟩)) rfl (gx_iaddr (i := k) (sz := 1) rfl rfl rfl Try.underlying28 (by kernel_rfl) HK1.out (by omega)) ?_
      simp only [Act.put, List.setIfInBounds_toArray, List.set_cons_zero, List.set_cons_succ]
      refine wpList_run (v := .slice la lm lc) rfl (lx_sl rfl rfl (by rw [World.cell?_of_block (Below.heap_alloc w4 _ lb (World.block_lt_of_cell? _ _ hcell))]; exact hcell)) ?_
      simp only [Act.put, List.setIfInBounds_toArray, List.set_cons_zero, List.set_cons_succ]
      refine wpList_run (v := .slice Ao lm co) (w' := wo) rfl (exec_append rfl rfl rfl HRUN.out) ?_
      simp only [Act.put, List.setIfInBounds_toArray, List.set_cons_zero, List.set_cons_succ]
      clear hcell HRUN
      have hw1 := feed_walk (c := co) HX.out.lk HO.out.bs.1 HO.out.bs.2.2 (by have := HH.out; have := HLM.out; omega)
      have HW1 := Lib.hid hw1
      clear hw1
      go_upto_region 14 with (go_at_call 14; refine HW1.out.mono ?_; rintro e w6 ⟨fv6, v6, rfl, hL6, hf6, ht6, hs6⟩)
      obtain ⟨fA6, fc6, rfl⟩ := hf6.form
      have HX6 := Lib.hid (fed_new HX.out hL6 HTO.out.size hs6)
      have HO6 := Lib.hid (HO.out.turn ht6 (fun k hk e => HXO.out k e hk))
      have HXO6 := Lib.hid (fed_apart (ob_lt HO.out) HXO.out.symm hs6).symm
      have HY6 := Lib.hid (HY.out.turn ht6 HAP.out)
      have HAP6 := Lib.hid (fed_apart HY.out.lt HAP.out hs6)
      have HT6 := Lib.hid (turn_new HTO.out ht6 HX.out.new)
      have HGO := Lib.hid (show apart (fun k => (wo.heap.size ≤ k ∨ vx.ownBlock = some k) ∧ ¬ foot p v6 k) (ob (.slice Ao lm co)) from fun k hk e => by
        rcases hk.1 with h1 | h1
        · have := ob_lt HO.out k e
          omega
        · exact HXO.out k (.inr h1) e)
      have HGY := Lib.hid (show ∀ k, ((wo.heap.size ≤ k ∨ vx.ownBlock = some k) ∧ ¬ foot p v6 k) → ¬ footR q Aq k from fun k hk e => by
        rcases hk.1 with h1 | h1
        · have := HY.out.lt k e
          omega
        · exact HAP.out k e (.inr h1))
      have HGW := Lib.hid (show ∀ k, ((wo.heap.size ≤ k ∨ vx.ownBlock = some k) ∧ ¬ foot p v6 k) → W.heap.size ≤ k from fun k hk => by
        rcases hk.1 with h1 | h1
        · have := HTO.out.size
          omega
        · exact HX.out.new k (.inr h1))
      have HF6 := Lib.hid hf6
      have hrt := feed_right (h ++ lv)
      have hcnt := fs_count (h ++ lv)
      have hll : (h ++ lv).length ≤ 1049090 := by rw [List.length_append]; have := HLN.out; have := HLM.out; have := HH.out; omega
      have HRT := Lib.hid hrt
      have HCN := Lib.hid (show (feed (h ++ lv)).fs.length ≤ 1049090 by omega)
      have HRL := Lib.hid (rest_len (h ++ lv))
      clear hL6 hf6 ht6 hs6 HW1 HX HO HXO HAP hrt hcnt hll
      obtain ⟨m, hm⟩ : ∃ m, m = (feed (h ++ lv)).fs.length := ⟨_, rfl⟩
      rw [← hm] at HF6 HCN ⊢
      have HM := Lib.hid hm
      clear hm
      go_wp2_with fail
      go_loopg [12] lm (fun gk iv wr2 => ∃ j : Nat, j + gk = lm ∧ iv = .int .i64 (j : Int) ∧ Turn (own_of Ao) w6 wr2 ∧ (0 < lm → ∃ g cur, Ao = some ⟨g, 0, none⟩ ∧ Blk wr2 g 5 cur ∧ lm ≤ cur.size))
      case atStart => exact ⟨0, by omega, rfl, Turn.refl _ _, fun h => blk_of_own HO6.out h⟩
      obtain ⟨j, hjl, rfl, htr2, hcur⟩ := hrel
      have HJL := Lib.hid hjl
      have HTR2 := Lib.hid htr2
      clear hjl htr2
      by_cases hjm : j < lm
      · obtain ⟨g, cur, rfl, hbk, hsz⟩ := hcur (by omega)
        have y3 : (j : Int) < (lm : Int) := by omega
        have y4 : (lm : Int) ≤ 1048576 := by have := HLM.out; omega
        have HJM := Lib.hid hjm
        have HBK := Lib.hid hbk
        have HSZ := Lib.hid hsz
        clear hjm hbk hsz hcur
        obtain ⟨w0, hw0⟩ : ∃ w0, w0 = wr := ⟨_, rfl⟩
        go_upto_region 17 with fail
        refine wp_region_lit ?_
        refine wpList_run (v := .slice (some ⟨g, 0, none⟩) lm co) rfl (exec_move rfl rfl) ?_
        simp only [Act.put, List.setIfInBounds_toArray, List.set_cons_zero, List.set_cons_succ]
        refine wpList_run (v := .int .i64 (j : Int)) rfl (exec_move rfl rfl) ?_
        simp only [Act.put, List.setIfInBounds_toArray, List.set_cons_zero, List.set_cons_succ]
        refine wpList_run (v := .pointer (some ⟨g, j, none⟩)) rfl (gx_iaddr (i := j) (sz := 1) rfl rfl rfl Try.underlying22 (by kernel_rfl) HJM.out (by omega)) ?_
        simp only [Act.put, List.setIfInBounds_toArray, List.set_cons_zero, List.set_cons_succ]
        refine wpList_store1 (g := g) (i := j) (v := .int .u8 77) rfl 5 (.tmp 62) (.const (.int .u8 77)) rfl HBK.out rfl rfl (by have := HJM.out; have := HSZ.out; omega) (by rfl) (by rfl) (by kernel_rfl) ?_
        intro hb5 ht5
        simp only [Act.put, List.setIfInBounds_toArray, List.set_cons_zero, List.set_cons_succ]

        have HB5 := Lib.hid hb5
        have HT5 := Lib.hid ht5
        clear hb5 ht5
        generalize World.setCell _ ⟨g, j, none⟩ (.int .u8 77) = w5 at *
        go_wp2_with fail
        go_roundg (gk - 1)
        case measure => have := HJL.out; have := HJM.out; omega
        case rel => exact ⟨j + 1, by have := HJL.out; have := HJM.out; omega, by go_num, HTR2.out.trans HT5.out (fun i _ e => by have e1 : i = g := e; subst e1; exact ⟨0, none, rfl⟩), fun _ => ⟨g, _, rfl, HB5.out, by rw [Array.size_setIfInBounds]; exact HSZ.out⟩⟩
      · have y3 : ¬ ((j : Int) < (lm : Int)) := by omega
        have HX7 := Lib.hid (HX6.out.turn HTR2.out (fun k hk e => HXO6.out k hk (own_block HO6.out e)))
        have HY7 := Lib.hid (HY6.out.turn HTR2.out (fun k hk e => HYO.out k hk (own_block HO6.out e)))
        have HF7 := Lib.hid (HF6.out.turn HTR2.out (fun k hk e => HGO.out k hk (own_block HO6.out e)))
        have HT7 := Lib.hid (turn_new HT6.out HTR2.out (fun k hk => HON.out k (own_block HO6.out hk)))
        have HSZ7 := Lib.hid HTR2.out.size
        clear hjm hcur HTR2 HX6 HO6 HXO6 HY6 HF6 HGO HYO HON
        generalize hwr : wr = w7 at *
        clear hwr
        obtain ⟨lb', lo', la', lm', lc', lv', elb, hlv', hcell, hlb', hlc', hlm'⟩ := (HLS.out.still HT7.out).at_ HK1.out
        obtain ⟨rfl, rfl⟩ : lb = lb' ∧ lo = lo' := by injection elb with e; injection e with e1 e2; exact ⟨e1, e2⟩
        obtain rfl : lv = lv' := Option.some.inj (HLL.out.symm.trans hlv')
        have hw1 := rfeed_walk (c := lc') HY7.out hlb' hlc' (by have := HH.out; omega)
        have HW1 := Lib.hid hw1
        clear hw1 hlb' hlc' hlm' hlv' elb
        go_upto_region 18 with fail
        refine wp_region_lit ?_
        refine wpList_run (v := .pointer (some ⟨q, 0, none⟩)) rfl (exec_move rfl rfl) ?_
        simp only [Act.put, List.setIfInBounds_toArray, List.set_cons_zero, List.set_cons_succ]
        refine wpList_run (v := .slice (some ⟨lb, lo, none⟩) n1 c1) rfl (exec_move rfl rfl) ?_
        simp only [Act.put, List.setIfInBounds_toArray, List.set_cons_zero, List.set_cons_succ]
        refine wpList_run (v := .int .i64 (k : Int)) rfl (exec_move rfl rfl) ?_
        simp only [Act.put, List.setIfInBounds_toArray, List.set_cons_zero, List.set_cons_succ]
        refine wpList_run (v := .pointer (some ⟨lb, lo + k, none⟩)) rfl (gx_iaddr (i := k) (sz := 1) rfl rfl rfl Try.underlying28 (by kernel_rfl) HK1.out (by omega)) ?_
        simp only [Act.put, List.setIfInBounds_toArray, List.set_cons_zero, List.set_cons_succ]
        refine wpList_run (v := .slice la' lm' lc') rfl (lx_sl rfl rfl hcell) ?_
        simp only [Act.put, List.setIfInBounds_toArray, List.set_cons_zero, List.set_cons_succ]

        clear hcell
        go_wp2_with fail
        refine HW1.out.mono ?_
        rintro e w8 ⟨fv8, A8, n8, c8, rfl, hR8, hf8, ht8, hn8⟩
        simp only [Act.put, List.setIfInBounds_toArray, List.set_cons_zero, List.set_cons_succ]
        rename_i K6 hK6
        refine hK6 _ _ ?_
        clear hK6 K6

        obtain ⟨fA8, fc8, rfl⟩ := hf8.form
        have HX8 := Lib.hid (HX7.out.turn ht8 (fun k hk e => HAP6.out k (.inl e) hk))
        have HY8 := Lib.hid hR8
        have HAP8 := Lib.hid (show apart (footR q A8) (foot p v6) from fun k hk e => by
          rcases hk with h1 | h1
          · exact HAP6.out k (.inl h1) e
          · have h2 := hn8 k h1
            have h3 := HX7.out.lk.lt k e
            omega)
        have HYN8 := Lib.hid (show ∀ k, footR q A8 k → W.heap.size ≤ k from fun k hk => by
          rcases hk with h1 | h1
          · exact HYN.out k (.inl h1)
          · exact Nat.le_trans HT7.out.size (hn8 k h1))
        have HT8 := Lib.hid (turn_new HT7.out ht8 (fun k hk => HYN.out k (.inl hk)))
        have HF8 := Lib.hid ((HF7.out.mono (G' := fun k => ((wo.heap.size ≤ k ∨ vx.ownBlock = some k) ∧ ¬ foot p v6 k) ∧ k < w7.heap.size) (fun k hk hlt => ⟨hk, hlt⟩)).turn ht8 (fun k hk e => HGY.out k hk.1 (.inl e)))
        have HGY8 := Lib.hid (show ∀ k, (((wo.heap.size ≤ k ∨ vx.ownBlock = some k) ∧ ¬ foot p v6 k) ∧ k < w7.heap.size) → ¬ footR q A8 k from fun k hk e => by
          rcases e with h1 | h1
          · exact HGY.out k hk.1 (.inl h1)
          · have := hn8 k h1
            omega)
        have hsame := same_walk HF8.out.frr hf8 (by rw [← HM.out]; have := HCN.out; omega)
        rw [decide_eq_true rfl, ← HM.out] at hsame
        rw [← HM.out]
        have HS := Lib.hid hsame
        clear hR8 hf8 ht8 hn8 hsame HW1 HX7 HY7 HF7 HT7 HY HYN HAP6 HGY
        generalize ec (feed (h ++ lv)).ok = e1 at *
        generalize (feed (h ++ lv)).rest = r at *
        generalize (feed (h ++ lv)).fs = fs at *
        obtain ⟨rl, hrl⟩ : ∃ rl, rl = r.length := ⟨_, rfl⟩
        have HRLE := Lib.hid hrl
        clear hrl
        go_upto_region 20 with (go_at_call 16; refine HS.out.mono ?_; rintro e w9 ⟨rfl, ht9⟩)
        have HX9 := Lib.hid (HX8.out.still ht9)
        have HY9 := Lib.hid (HY8.out.turn ht9 (fun _ _ e => e))
        have HF9 := Lib.hid (HF8.out.turn ht9 (fun _ _ e => e))
        have HT9 := Lib.hid (HT8.out.trans ht9 (fun _ _ e => e))
        clear ht9 HS HX8 HY8 HF8 HT8
        have hnr : n8 = rl := by have := HY9.out.bs.1; have := HRLE.out; omega
        have HNR := Lib.hid hnr
        clear hnr
        have hdr : Turn nowhere w9 w9.drew := Turn.drew (Turn.refl nowhere w9)
        have hS : Lk w9.drew p v6 r ∧ Rk w9.drew q A8 n8 c8 r := ⟨(HX9.out.still hdr).lk, HY9.out.turn hdr (fun _ _ e => e)⟩
        refine wp_region_alw (fun W => Lk W p v6 r ∧ Rk W q A8 n8 c8 r) (by kernel_rfl) ?_
        refine alw_take (i := 0) (v := .bool true) rfl (by kernel_rfl) (by kernel_rfl) (fun _ _ _ h => h) (.inl ⟨by rfl, fun W hW => exec_move rfl rfl⟩) hS ?_
        simp only [Act.put, List.setIfInBounds_toArray, List.set_cons_zero, List.set_cons_succ]
        refine alw_take (i := 1) (v := .bool false) rfl (by kernel_rfl) (by kernel_rfl) (fun _ _ _ h => h) (.inl ⟨by rfl, fun W hW => ix_not (b := true) rfl rfl⟩) hS ?_
        simp only [Act.put, List.setIfInBounds_toArray, List.set_cons_zero, List.set_cons_succ]
        refine alw_take (i := 2) (v := .bool false) rfl (by kernel_rfl) (by kernel_rfl) (fun _ _ _ h => h) (.inl ⟨by rfl, fun W hW => exec_move rfl rfl⟩) hS ?_
        simp only [Act.put, List.setIfInBounds_toArray, List.set_cons_zero, List.set_cons_succ]
        refine alw_take (i := 3) (v := .int .i64 e1) rfl (by kernel_rfl) (by kernel_rfl) (fun _ _ _ h => h) (.inl ⟨by rfl, fun W hW => exec_move rfl rfl⟩) hS ?_
        simp only [Act.put, List.setIfInBounds_toArray, List.set_cons_zero, List.set_cons_succ]
        refine alw_take (i := 4) (v := .int .i64 e1) rfl (by kernel_rfl) (by kernel_rfl) (fun _ _ _ h => h) (.inl ⟨by rfl, fun W hW => exec_move rfl rfl⟩) hS ?_
        simp only [Act.put, List.setIfInBounds_toArray, List.set_cons_zero, List.set_cons_succ]
        refine alw_take (i := 5) (v := .bool false) rfl (by kernel_rfl) (by kernel_rfl) (fun _ _ _ h => h) (.inl ⟨by rfl, fun W hW => ix_neq rfl rfl rfl (by simp)⟩) hS ?_
        simp only [Act.put, List.setIfInBounds_toArray, List.set_cons_zero, List.set_cons_succ]
        refine alw_take (i := 6) (v := .bool false) rfl (by kernel_rfl) (by kernel_rfl) (fun _ _ _ h => h) (.inl ⟨by rfl, fun W hW => ix_pickF rfl rfl rfl⟩) hS ?_
        simp only [Act.put, List.setIfInBounds_toArray, List.set_cons_zero, List.set_cons_succ]
        refine alw_take (i := 7) (v := .bool false) rfl (by kernel_rfl) (by kernel_rfl) (fun _ _ _ h => h) (.inl ⟨by rfl, fun W hW => exec_move rfl rfl⟩) hS ?_
        simp only [Act.put, List.setIfInBounds_toArray, List.set_cons_zero, List.set_cons_succ]
        refine alw_take (i := 8) (v := .pointer (some ⟨p, 0, none⟩)) rfl (by kernel_rfl) (by kernel_rfl) (fun _ _ _ h => h) (.inl ⟨by rfl, fun W hW => exec_move rfl rfl⟩) hS ?_
        simp only [Act.put, List.setIfInBounds_toArray, List.set_cons_zero, List.set_cons_succ]
        refine alw_take (i := 10) (v := .pointer (some ⟨q, 0, none⟩)) rfl (by kernel_rfl) (by kernel_rfl) (fun _ _ _ h => h) (.inl ⟨by rfl, fun W hW => exec_move rfl rfl⟩) hS ?_
        simp only [Act.put, List.setIfInBounds_toArray, List.set_cons_zero, List.set_cons_succ]
        refine alw_take (i := 11) (v := .pointer (some ⟨q, 0, none⟩)) rfl (by kernel_rfl) (by kernel_rfl) (fun _ _ _ h => h) (.inl ⟨by rfl, fun W hW => exec_nil rfl rfl⟩) hS ?_
        simp only [Act.put, List.setIfInBounds_toArray, List.set_cons_zero, List.set_cons_succ]
        refine alw_take (i := 12) (v := .pointer (some ⟨q, 0 + 0, none⟩)) rfl (by kernel_rfl) (by kernel_rfl) (fun _ _ _ h => h) (.inl ⟨by rfl, fun W hW => exec_field (off := 0) (d := 0) rfl rfl (by kernel_rfl)⟩) hS ?_
        simp only [Act.put, List.setIfInBounds_toArray, List.set_cons_zero, List.set_cons_succ]
        refine alw_take (i := 13) (v := .slice A8 n8 c8) rfl (by kernel_rfl) (by kernel_rfl) (fun _ _ _ h => h) (.inl ⟨by rfl, fun W hW => lx_sl rfl rfl (hW.2.blk.cell 0)⟩) hS ?_
        simp only [Act.put, List.setIfInBounds_toArray, List.set_cons_zero, List.set_cons_succ]
        refine alw_take (i := 14) (v := .int .i64 (n8 : Int)) rfl (by kernel_rfl) (by kernel_rfl) (fun _ _ _ h => h) (.inl ⟨by rfl, fun W hW => lx_blen rfl rfl⟩) hS ?_
        simp only [Act.put, List.setIfInBounds_toArray, List.set_cons_zero, List.set_cons_succ]

        refine alw_step (i := 9) (by kernel_rfl) rfl rfl ?_
        intro K9 HK9
        go_wp2_with fail
        refine (held_walk hS.1).mono ?_
        rintro e w10 ⟨rfl, rfl⟩
        refine HK9.out _ _ ⟨hS, ?_⟩
        clear HK9
        refine alw_take (i := 15) (v := .bool false) rfl (by kernel_rfl) (by kernel_rfl) (fun _ _ _ h => h) (.inl ⟨by rfl, fun W hW => ix_neq (i := (r.length : Int)) (j := (n8 : Int)) rfl rfl rfl (by have := HNR.out; have := HRLE.out; simp; omega)⟩) hS ?_
        simp only [Act.put, List.setIfInBounds_toArray, List.set_cons_zero, List.set_cons_succ]
        refine alw_take (i := 16) (v := .bool false) rfl (by kernel_rfl) (by kernel_rfl) (fun _ _ _ h => h) (.inl ⟨by rfl, fun W hW => ix_pickF rfl rfl rfl⟩) hS ?_
        simp only [Act.put, List.setIfInBounds_toArray, List.set_cons_zero, List.set_cons_succ]

        refine alw_done (by kernel_rfl) ?_
        refine NoPanic.normal ?_
        clear hS
        have HX10 := Lib.hid (HX9.out.still hdr)
        have HY10 := Lib.hid (HY9.out.turn hdr (fun _ _ e => e))
        have HF10 := Lib.hid (HF9.out.turn hdr (fun _ _ e => e))
        have HT10 := Lib.hid (HT9.out.trans hdr (fun _ _ e => e))
        clear hdr HX9 HY9 HF9 HT9
        generalize World.drew w9 = w10 at *
        have HG8 := Lib.hid (show ∀ k, (((wo.heap.size ≤ k ∨ vx.ownBlock = some k) ∧ ¬ foot p v6 k) ∧ k < w7.heap.size) → ¬ foot p v6 k ∧ ¬ footR q A8 k ∧ W.heap.size ≤ k from fun k hk => ⟨hk.1.2, HGY8.out k hk, HGW.out k hk.1⟩)
        generalize hG : (fun k => ((wo.heap.size ≤ k ∨ vx.ownBlock = some k) ∧ ¬ foot p v6 k) ∧ k < w7.heap.size) = G at HF10
        have HG8' := Lib.hid (show ∀ k, G k → ¬ foot p v6 k ∧ ¬ footR q A8 k ∧ W.heap.size ≤ k from fun k hk => HG8.out k (by rw [← hG] at hk; exact hk))
        clear hG HG8 HGY8 HGW
        have HWR := Lib.hid (wr_of HF10.out HM.out.symm HRT.out)
        clear HF10 HRT
        go_upto_region 22 with fail
        go_wp2_with fail
        go_loopg [16, 17] m (fun gk iv x17 wr3 => ∃ j : Nat, j + gk = m ∧ iv = .int .i64 (j : Int) ∧ Wr wr3 G fA6 m j ∧ LkN W.heap.size wr3 p v6 r ∧ Rk wr3 q A8 n8 c8 r ∧ Turn nowhere W wr3)
        case atStart => exact ⟨0, by omega, rfl, HWR.out, HX10.out, HY10.out, HT10.out⟩
        clear HWR HX10 HY10 HT10
        obtain ⟨j, hjl, rfl, hwr, hX, hY, htr⟩ := hrel
        have HJL := Lib.hid hjl
        have HWR := Lib.hid hwr
        have HX := Lib.hid hX
        have HY := Lib.hid hY
        have HTR := Lib.hid htr
        clear hjl hwr hX hY htr
        by_cases hjm : j < m
        · obtain ⟨rb, cur, rfl, hrb, hms, hGr, hel⟩ := HWR.out (by omega)
          obtain ⟨b, off, n, cu, hcj, hnp, hn5, hbb, hos, hGb⟩ := hel j (Nat.le_refl _) hjm
          have y3 : (j : Int) < (m : Int) := by omega
          have y4 : (m : Int) ≤ 1049090 := by have := HCN.out; omega
          have HJM := Lib.hid hjm
          have HNP := Lib.hid hnp
          have HN5 := Lib.hid hn5
          have HMS := Lib.hid hms
          have HGR := Lib.hid hGr
          have HGB := Lib.hid hGb
          have HCJ := Lib.hid hcj
          have HRB := Lib.hid hrb
          have HBB := Lib.hid (show ∃ cu, Blk wr b 5 cu ∧ off + n ≤ cu.size from ⟨cu, hbb, hos⟩)
          clear hrb hms hGr hel hcj hnp hn5 hbb hos hGb hjm
          go_upto_region 25 with fail
          go_wp2_with fail
          go_loopg [17] n (fun gk iv wr4 => ∃ i2 : Nat, i2 + gk = n ∧ iv = .int .i64 (i2 : Int) ∧ Wr wr4 G (some ⟨rb, 0, none⟩) m j ∧ Blk wr4 rb 22 cur ∧ (∃ cu, Blk wr4 b 5 cu ∧ off + n ≤ cu.size) ∧ LkN W.heap.size wr4 p v6 r ∧ Rk wr4 q A8 n8 c8 r ∧ Turn nowhere W wr4)
          case atStart => exact ⟨0, by omega, rfl, HWR.out, HRB.out, HBB.out, HX.out, HY.out, HTR.out⟩
          clear HWR HRB HBB HX HY HTR
          obtain ⟨i2, hil, rfl, hwr, hrb, hbb, hX, hY, htr⟩ := hrel
          have HIL := Lib.hid hil
          have HWR := Lib.hid hwr
          have HRB := Lib.hid hrb
          have HBB := Lib.hid hbb
          have HX := Lib.hid hX
          have HY := Lib.hid hY
          have HTR := Lib.hid htr
          have hcell : wr.cell? ⟨rb, j, none⟩ = some (.slice (some ⟨b, off, none⟩) n n) := by rw [hrb.cell j, HCJ.out]
          clear hil hwr hrb hbb hX hY htr
          go_upto_region 26 with fail
          refine wp_region_lit ?_
          refine wpList_run (v := .int .i64 (i2 : Int)) rfl (exec_move rfl rfl) ?_
          simp only [Act.put, List.setIfInBounds_toArray, List.set_cons_zero, List.set_cons_succ]
          refine wpList_run (v := .slice (some ⟨rb, 0, none⟩) m fc6) rfl (exec_move rfl rfl) ?_
          simp only [Act.put, List.setIfInBounds_toArray, List.set_cons_zero, List.set_cons_succ]
          refine wpList_run (v := .int .i64 (j : Int)) rfl (exec_move rfl rfl) ?_
          simp only [Act.put, List.setIfInBounds_toArray, List.set_cons_zero, List.set_cons_succ]
          refine wpList_run (v := .pointer (some ⟨rb, j, none⟩)) rfl (gx_iaddr (i := j) (sz := 1) rfl rfl rfl Try.underlying28 (by kernel_rfl) HJM.out (by omega)) ?_
          simp only [Act.put, List.setIfInBounds_toArray, List.set_cons_zero, List.set_cons_succ]
          refine wpList_run (v := .slice (some ⟨b, off, none⟩) n n) rfl (lx_sl rfl rfl hcell) ?_
          simp only [Act.put, List.setIfInBounds_toArray, List.set_cons_zero, List.set_cons_succ]
          refine wpList_run (v := .int .i64 (n : Int)) rfl (lx_blen rfl rfl) ?_
          simp only [Act.put, List.setIfInBounds_toArray, List.set_cons_zero, List.set_cons_succ]

          by_cases hin : i2 < n
          · have y5 : (i2 : Int) < (n : Int) := by omega
            have y6 : (n : Int) ≤ 512 := by have := HN5.out; omega
            have HIN := Lib.hid hin
            obtain ⟨cu, hbb, hos⟩ := HBB.out
            have HBB1 := Lib.hid hbb
            have HOS := Lib.hid hos
            clear hin hbb hos
            go_upto_region 28 with fail
            refine wp_region_lit ?_
            refine wpList_run (v := .slice (some ⟨rb, 0, none⟩) m fc6) rfl (exec_move rfl rfl) ?_
            simp only [Act.put, List.setIfInBounds_toArray, List.set_cons_zero, List.set_cons_succ]
            refine wpList_run (v := .int .i64 (j : Int)) rfl (exec_move rfl rfl) ?_
            simp only [Act.put, List.setIfInBounds_toArray, List.set_cons_zero, List.set_cons_succ]
            refine wpList_run (v := .pointer (some ⟨rb, j, none⟩)) rfl (gx_iaddr (i := j) (sz := 1) rfl rfl rfl Try.underlying28 (by kernel_rfl) HJM.out (by omega)) ?_
            simp only [Act.put, List.setIfInBounds_toArray, List.set_cons_zero, List.set_cons_succ]
            refine wpList_run (v := .slice (some ⟨b, off, none⟩) n n) rfl (lx_sl rfl rfl hcell) ?_
            simp only [Act.put, List.setIfInBounds_toArray, List.set_cons_zero, List.set_cons_succ]
            refine wpList_run (v := .int .i64 (i2 : Int)) rfl (exec_move rfl rfl) ?_
            simp only [Act.put, List.setIfInBounds_toArray, List.set_cons_zero, List.set_cons_succ]
            refine wpList_run (v := .pointer (some ⟨b, off + i2, none⟩)) rfl (gx_iaddr (i := i2) (sz := 1) rfl rfl rfl Try.underlying22 (by kernel_rfl) HIN.out (by omega)) ?_
            simp only [Act.put, List.setIfInBounds_toArray, List.set_cons_zero, List.set_cons_succ]
            refine wpList_store1 (g := b) (i := off + i2) (v := .int .u8 99) rfl 5 (.tmp 112) (.const (.int .u8 99)) rfl HBB1.out rfl rfl (by have := HIN.out; have := HOS.out; omega) (by rfl) (by rfl) (by kernel_rfl) ?_
            intro hb5 ht5
            simp only [Act.put, List.setIfInBounds_toArray, List.set_cons_zero, List.set_cons_succ]

            have HW5 := Lib.hid (HWR.out.byte (i := off + i2) (u := .int .u8 99) HBB1.out)
            have HRB5 := Lib.hid (HRB.out.turn ht5 (fun e => HRB.out.ne_ HBB1.out (by decide) e))
            have HX5 := Lib.hid (HX.out.turn ht5 (fun k hk e => (HG8'.out b HGB.out).1 (by rw [← (show k = b from e)]; exact hk)))
            have HY5 := Lib.hid (HY.out.turn ht5 (fun k hk e => (HG8'.out b HGB.out).2.1 (by rw [← (show k = b from e)]; exact hk)))
            have HT5 := Lib.hid (turn_new HTR.out ht5 (fun k hk => by rw [show k = b from hk]; exact (HG8'.out b HGB.out).2.2))
            have HB5 := Lib.hid hb5
            clear hb5 ht5 hcell
            generalize World.setCell _ ⟨b, off + i2, none⟩ (.int .u8 99) = w5 at *
            go_wp2_with fail
            go_roundg (gk - 1)
            case measure => have := HIL.out; have := HIN.out; omega
            case rel => exact ⟨i2 + 1, by have := HIL.out; have := HIN.out; omega, by go_num, HW5.out, HRB5.out, ⟨_, HB5.out, by rw [Array.size_setIfInBounds]; exact HOS.out⟩, HX5.out, HY5.out, HT5.out⟩
          · have y5 : ¬ ((i2 : Int) < (n : Int)) := by omega
            clear hin
            obtain ⟨cu, hbb, hos⟩ := HBB.out
            obtain ⟨i0, hi0, hz0, hz1, hz2⟩ := info_parts byteInfo
            have hta := (Turn.refl nowhere wr).alloc (.cells #[.int .u8 98] 5)
            have hnb := Blk.new wr 5 #[.int .u8 98]
            obtain ⟨v9, w9, hrun9, hown9, hgr9⟩ := run_append_arg_grows (P := Try.prog) (wr.alloc (.cells #[.int .u8 98] 5)) 22 22 5 i0 _ 1 1 Try.underlying22 hi0 hz0 hz1 hz2 rfl (by omega)
              ⟨b, off, none⟩ n n ((cu.toList.drop off).take n) (by rw [List.length_take, List.length_drop, Array.length_toList]; omega) (fun j' u hj => by
                have hjn : j' < n := by
                  have := (List.getElem?_eq_some_iff.1 hj).1
                  rw [List.length_take] at this
                  omega
                rw [List.getElem?_take, if_pos hjn, List.getElem?_drop, Array.getElem?_toList] at hj
                rw [add_nat, (hbb.turn hta (fun e => e)).cell]
                exact hj) ⟨wr.heap.size, 0, none⟩ 1 1 [.int .u8 98] rfl (fun j' u hj => by
                have hj0 : j' = 0 := by
                  have := (List.getElem?_eq_some_iff.1 hj).1
                  simpa using this
                subst hj0
                rw [add_nat, hnb.cell]
                exact hj) (by omega) (by have := HN5.out; unfold maxLen; omega) (by have := HN5.out; omega)
            obtain ⟨A9, c9, rfl⟩ := own_form hown9
            have ht9 := hta.grown hgr9 (fun _ e _ => by cases e)
            have HRUN := Lib.hid hrun9
            have HW9 := Lib.hid (HWR.out.still ht9)
            have HRB9 := Lib.hid (HRB.out.turn ht9 (fun e => e))
            have HX9 := Lib.hid (HX.out.still ht9)
            have HY9 := Lib.hid (HY.out.turn ht9 (fun _ _ e => e))
            have HT9 := Lib.hid (HTR.out.trans ht9 (fun _ _ e => e))
            clear hbb hos hi0 hz0 hz1 hz2 hta hnb hrun9 hown9 hgr9 ht9 HBB
            go_upto_region 29 with fail
            refine wp_region_lit ?_
            refine wpList_run (v := .slice (some ⟨rb, 0, none⟩) m fc6) rfl (exec_move rfl rfl) ?_
            simp only [Act.put, List.setIfInBounds_toArray, List.set_cons_zero, List.set_cons_succ]
            refine wpList_run (v := .int .i64 (j : Int)) rfl (exec_move rfl rfl) ?_
            simp only [Act.put, List.setIfInBounds_toArray, List.set_cons_zero, List.set_cons_succ]
            refine wpList_run (v := .slice (some ⟨rb, 0, none⟩) m fc6) rfl (exec_move rfl rfl) ?_
            simp only [Act.put, List.setIfInBounds_toArray, List.set_cons_zero, List.set_cons_succ]
            refine wpList_run (v := .int .i64 (j : Int)) rfl (exec_move rfl rfl) ?_
            simp only [Act.put, List.setIfInBounds_toArray, List.set_cons_zero, List.set_cons_succ]
            refine wpList_run (v := .pointer (some ⟨rb, j, none⟩)) rfl (gx_iaddr (i := j) (sz := 1) rfl rfl rfl Try.underlying28 (by kernel_rfl) HJM.out (by omega)) ?_
            simp only [Act.put, List.setIfInBounds_toArray, List.set_cons_zero, List.set_cons_succ]
            refine wpList_run (v := .slice (some ⟨b, off, none⟩) n n) rfl (lx_sl rfl rfl hcell) ?_
            simp only [Act.put, List.setIfInBounds_toArray, List.set_cons_zero, List.set_cons_succ]
            refine wpList_run (v := .slice (some ⟨wr.heap.size, 0, none⟩) 1 1) (w' := wr.alloc (.cells #[.int .u8 98] 5)) rfl (exec_buildSlice1 rfl rfl (build_1 _ _)) ?_
            simp only [Act.put, List.setIfInBounds_toArray, List.set_cons_zero, List.set_cons_succ]
            refine wpList_run (v := .slice A9 (n + 1) c9) (w' := w9) rfl (exec_append rfl rfl rfl HRUN.out) ?_
            simp only [Act.put, List.setIfInBounds_toArray, List.set_cons_zero, List.set_cons_succ]
            refine wpList_run (v := .pointer (some ⟨rb, j, none⟩)) rfl (gx_iaddr (i := j) (sz := 1) rfl rfl rfl Try.underlying28 (by kernel_rfl) HJM.out (by omega)) ?_
            simp only [Act.put, List.setIfInBounds_toArray, List.set_cons_zero, List.set_cons_succ]
            refine wpList_store1 (g := rb) (i := j) (v := .slice A9 (n + 1) c9) rfl 22 (.tmp 121) (.tmp 120) rfl HRB9.out rfl rfl (by have := HJM.out; have := HMS.out; omega) (by rfl) (by rfl) (by kernel_rfl) ?_
            intro hb5 ht5
            simp only [Act.put, List.setIfInBounds_toArray, List.set_cons_zero, List.set_cons_succ]

            have HW5 := Lib.hid (HW9.out.put (u := .slice A9 (n + 1) c9) HRB9.out)
            have HX5 := Lib.hid (HX9.out.turn ht5 (fun k hk e => (HG8'.out rb HGR.out).1 (by rw [← (show k = rb from e)]; exact hk)))
            have HY5 := Lib.hid (HY9.out.turn ht5 (fun k hk e => (HG8'.out rb HGR.out).2.1 (by rw [← (show k = rb from e)]; exact hk)))
            have HT5 := Lib.hid (turn_new HT9.out ht5 (fun k hk => by rw [show k = rb from hk]; exact (HG8'.out rb HGR.out).2.2))
            clear hb5 ht5 hcell HRUN HW9 HRB9 HX9 HY9 HT9
            generalize World.setCell _ ⟨rb, j, none⟩ (.slice A9 (n + 1) c9) = w5 at *
            go_wp2_with fail
            go_roundg (m - (j + 1))
            case measure => have := HJL.out; have := HJM.out; omega
            case rel => exact ⟨j + 1, by have := HJM.out; omega, by go_num, HW5.out, HX5.out, HY5.out, HT5.out⟩
        · have y3 : ¬ ((j : Int) < (m : Int)) := by omega
          clear hjm
          go_wp2_with fail
          go_roundg (n1 - (k + 1))
          case measure => have := HKL.out; have := HK1.out; omega
          case rel => exact ⟨k + 1, v6, r, A8, n8, c8, by have := HK1.out; omega, by go_num, HX.out, HY.out, HYN8.out, HAP8.out, HRL.out, HTR.out⟩

  · have y1 : ¬ ((k : Int) < (n1 : Int)) := by omega
    clear hk1
    go_wp2_with fail
    go_ret
    exact ⟨rfl, htr.below (Nat.le_refl _) (fun k hk e => e)⟩

end Go.Proofs.Ytagoijgmoaffdaa
