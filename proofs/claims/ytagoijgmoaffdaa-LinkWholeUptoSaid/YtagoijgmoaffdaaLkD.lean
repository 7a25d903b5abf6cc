/-
  link's split, walked. Condition: the line is at most 2^43 bytes long.
-/
import Derived.Test.YtagoijgmoaffdaaLkC
namespace Go.Proofs.Ytagoijgmoaffdaa
open Go.RowKit
open Lkk
set_option linter.unusedVariables false
set_option linter.unusedSimpArgs false
def ec (b : Bool) : Int := if b then 0 else 60
def own_of (A : Option Addr) : Nat → Prop := fun k => ∃ off s, A = some ⟨k, off, s⟩
/-- what is left of a line, as a slice of it -/
def RestV (w : World) (A : Option Addr) (rv : Value) (r : List UInt8) : Prop := ∃ A' n' c', rv = .slice A' n' c' ∧ Bs w A' n' r ∧ n' ≤ c' ∧ (A' = none → c' = 0) ∧ ∀ k, own_of A' k → own_of A k
theorem frs_more {w : World} {G : Nat → Prop} {fv : Value} {fs : List (List UInt8)} (h : Frs w G fv fs) {u : Value} {f : List UInt8} (hu : FrC w G u f) (hn : (fs.length + 1) * 24 ≤ 140737488355328) (hG : ∀ k, w.heap.size ≤ k → G k) {ty : TypeId} :
    ∃ A c w', (Builtin.append_ #[28, 28] ty #[fv, .slice (some ⟨w.heap.size, 0, none⟩) 1 1]).run Try.prog (w.alloc (.cells u.cells 22)) = .ok (.slice A (fs.length + 1) c) w' ∧ Frs w' G (.slice A (fs.length + 1) c) (fs ++ [f]) ∧ Ext w w' fv (.slice A (fs.length + 1) c) := by
  obtain ⟨vals, h1, h2, h3⟩ := h
  have huc : u.cells = #[u] ∧ u.oneCell' = true := by
    obtain ⟨b, off, n, cur, rfl, _⟩ := hu
    exact ⟨rfl, rfl⟩
  have hvl : vals.length = fs.length := by rw [h1.1, Nat.mul_one]
  rw [huc.1]
  obtain ⟨A', c', w', g1, g2, g3⟩ := append_row (ty := ty) (w := w.alloc (.cells #[u] 22)) (c := 1) Try.underlying28 sliceInfo rfl (news := [u]) (m := 1) (A := ⟨w.heap.size, 0, none⟩) (h1.alloc _) rfl (fun j v hj => by
      have hj0 : j = 0 := by
        have := (List.getElem?_eq_some_iff.1 hj).1
        simpa using this
      subst hj0
      rw [add_nat, (Blk.new w 22 #[u]).cell]
      exact hj) (fun v hv => by
      have : v = u := by simpa using hv
      subst this
      exact huc.2) hn (by unfold maxLen; omega)
  have ht : Ext w w' fv (.slice A' (fs.length + 1) c') := ⟨((Turn.refl _ w).alloc _).trans g3.tr fun _ _ e => e, fun b hb hlt => g3.sub b hb (by simp; omega)⟩
  refine ⟨A', c', w', g1, ⟨vals ++ [u], by rw [List.length_append]; exact g2, fun k hk => ?_, fun i v hi => ?_⟩, ht⟩
  · by_cases hlt : k < w.heap.size
    · exact h2 k (ht.sub k hk.symm hlt).symm
    · exact hG k (by omega)
  · have keep : ∀ {v f}, FrC w G v f → FrC w' G v f := by
      rintro v f ⟨b, off, n, cur, rfl, q1, q2, q3, q4⟩
      have hlt : b < w.heap.size := (Array.getElem?_eq_some_iff.1 q4).1
      by_cases hb : some b = fv.ownBlock
      · exfalso
        rcases h1.2 with ⟨rfl, _⟩ | ⟨g', cap, cur', rfl, _, hg', _⟩
        · cases hb
        · have e2 : b = g' := Option.some.inj hb
          subst e2
          rw [q4] at hg'
          injection hg' with h2
          injection h2 with _ h3
          exact absurd h3 (by decide)
      · exact ⟨b, off, n, cur, rfl, q1, q2.turn ht.tr (fun b' off' s e1 _ _ => by injection e1 with e1; injection e1 with e1; subst e1; exact hb), q3, by rw [ht.tr.block b hlt hb]; exact q4⟩
    by_cases hil : i < vals.length
    · rw [List.getElem?_append_left hil] at hi
      obtain ⟨f', hf', hc'⟩ := h3 i v hi
      exact ⟨f', by rw [List.getElem?_append_left (by omega)]; exact hf', keep hc'⟩
    · rw [List.getElem?_append_right (by omega)] at hi
      have hi0 : i - vals.length = 0 := by
        have := (List.getElem?_eq_some_iff.1 hi).1
        simpa using this
      rw [hi0] at hi
      have : u = v := by simpa using hi
      subst this
      exact ⟨f, by rw [List.getElem?_append_right (by omega), show i - fs.length = 0 from by omega]; rfl, keep hu⟩
theorem own_line {w : World} {A : Option Addr} {n c : Nat} {l : List UInt8} (h : Own w 0 5 (.slice A n c) l) (hp : 0 < n) : ∃ g cur, A = some ⟨g, 0, none⟩ ∧ w.heap[g]? = some (.cells cur 5 (0, 0)) := by
  rcases h.2 with ⟨e, h0⟩ | ⟨g, cap, cur, e, _, hg, _⟩
  · injection e with _ e2 _
    omega
  · injection e with e1 e2 e3
    exact ⟨g, cur, e1, hg⟩
theorem own_block {A : Option Addr} {n c k : Nat} {w : World} {l : List UInt8} (h : Own w 0 5 (.slice A n c) l) (hk : own_of A k) : (Value.slice A n c).ownBlock = some k := by
  obtain ⟨off, s, rfl⟩ := hk
  rcases h.2 with ⟨e, _⟩ | ⟨g, cap, cur, e, _⟩
  · cases e
  · injection e with e1 _ _
    injection e1 with e1
    injection e1 with e2 e3 e4
    subst e2 e3 e4
    rfl
theorem own_pos {A : Option Addr} {k c b : Nat} (h : own_of (pos A k c) b) : own_of A b := by
  obtain ⟨off, s, e⟩ := h
  obtain ⟨off', s', e'⟩ := pos_block e
  exact ⟨off', s', e'⟩
theorem hdr_lt (l : List UInt8) : hdr l < 65536 := by
  unfold hdr
  have := (l.getD 0 0).toNat_lt
  have := (l.getD 1 0).toNat_lt
  omega
theorem feed_mid {cur : List UInt8} {n : Nat} (hl : cur.length = n) (h2 : 2 ≤ n) (hok : 1 ≤ hdr cur ∧ hdr cur ≤ 512) : feed cur = (if n < 2 + hdr cur then (⟨[], cur, true⟩ : Sp) else (feed (cur.drop (2 + hdr cur))).pre [(cur.drop 2).take (hdr cur)]) := by
  subst hl
  by_cases h : cur.length < 2 + hdr cur
  · rw [if_pos h, feed_part h2 hok.1 hok.2 h]
  · rw [if_neg h, feed_step h2 hok.1 hok.2 (by omega)]
/-- a round of split's loop begins -/
structure Loop (w wr : World) (b : Nat) (A : Option Addr) (n c : Nat) (l : List UInt8) (fv : Value) (cur : List UInt8) (A' : Option Addr) (n' c' : Nat) (fs : List (List UInt8)) : Prop where
  bs : Bs wr A' n' cur
  nc : n' ≤ c'
  ac : A' = none → c' = 0
  sub : ∀ k, own_of A' k → own_of A k
  fd : feed l = (feed cur).pre fs
  fr : Frs wr (fun k => b < k ∨ own_of A k) fv fs
  tr : Turn nowhere w wr
  nil : fs = [] → Value.slice A' n' c' = .slice A n c
  cnt : fs.length * 3 + n' ≤ l.length
theorem Loop.still {w wr w' : World} {b : Nat} {A : Option Addr} {n c : Nat} {l : List UInt8} {fv : Value} {cur : List UInt8} {A' : Option Addr} {n' c' : Nat} {fs : List (List UInt8)} (h : Loop w wr b A n c l fv cur A' n' c' fs) (ht : Turn nowhere wr w') : Loop w w' b A n c l fv cur A' n' c' fs :=
  ⟨h.bs.still ht, h.nc, h.ac, h.sub, h.fd, h.fr.turn ht (fun _ _ e => e), h.tr.trans ht (fun _ _ e => e), h.nil, h.cnt⟩
theorem loop_le {w wr : World} {b : Nat} {A : Option Addr} {n c : Nat} {l : List UInt8} {fv : Value} {cur : List UInt8} {A' : Option Addr} {n' c' : Nat} {fs : List (List UInt8)} (h : Loop w wr b A n c l fv cur A' n' c' fs) : n' ≤ l.length := by have := h.cnt; omega
/-- what split tells -/
def Told (w w' : World) (A : Option Addr) (n c : Nat) (l : List UInt8) (e : Ending) : Prop := ∃ fv rv, e = .returned (.tuple #[fv, rv, .int .i64 (ec (feed l).ok)]) ∧ Frs w' (fun k => w.heap.size ≤ k ∨ own_of A k) fv (feed l).fs ∧ Turn nowhere w w' ∧
      ((feed l).ok = true → RestV w' A rv (feed l).rest ∧ ((feed l).fs = [] → rv = .slice A n c)) ∧ ((feed l).ok = false → rv = .slice none 0 0)
theorem loop_bad {w wr : World} {b : Nat} {A : Option Addr} {n c : Nat} {l : List UInt8} {fv : Value} {cur : List UInt8} {A' : Option Addr} {n' c' : Nat} {fs : List (List UInt8)} (hb : b = w.heap.size) (h : Loop w wr b A n c l fv cur A' n' c' fs) (hf : feed cur = ⟨[], [], false⟩) :
    Told w wr A n c l (.returned (.tuple #[fv, .slice none 0 0, .int .i64 60])) := by
  have hl := h.fd
  rw [hf] at hl
  have e1 : feed l = ⟨fs, [], false⟩ := by rw [hl]; simp [Sp.pre]
  unfold Told
  rw [e1]
  refine ⟨fv, .slice none 0 0, by rfl, h.fr.mono (fun k hk _ => hk.elim (fun h => .inl (by omega)) .inr), h.tr, ?_, fun _ => rfl⟩
  intro e
  cases e
theorem loop_ok {w wr : World} {b : Nat} {A : Option Addr} {n c : Nat} {l : List UInt8} {fv : Value} {cur : List UInt8} {A' : Option Addr} {n' c' : Nat} {fs : List (List UInt8)} (hb : b = w.heap.size) (h : Loop w wr b A n c l fv cur A' n' c' fs) (hf : feed cur = ⟨[], cur, true⟩) :
    Told w wr A n c l (.returned (.tuple #[fv, .slice A' n' c', .int .i64 0])) := by
  have hl := h.fd
  rw [hf] at hl
  have e1 : feed l = ⟨fs, cur, true⟩ := by rw [hl]; simp [Sp.pre]
  unfold Told
  rw [e1]
  refine ⟨fv, .slice A' n' c', by rfl, h.fr.mono (fun k hk _ => hk.elim (fun h => .inl (by omega)) .inr), h.tr, fun _ => ⟨⟨A', n', c', rfl, h.bs, h.nc, h.ac, h.sub⟩, h.nil⟩, ?_⟩
  intro e
  cases e
theorem own_heap {w : World} {A : Option Addr} {n c : Nat} {l : List UInt8} (h : Own w 0 5 (.slice A n c) l) : ∀ k, own_of A k → ∃ cur, w.heap[k]? = some (.cells cur 5 (0, 0)) := by
  rintro k ⟨off, s, rfl⟩
  rcases h.2 with ⟨e, _⟩ | ⟨g, cap, cur, e, _, hg, _⟩
  · cases e
  · injection e with e1 _ _
    injection e1 with e1
    injection e1 with e2 e3 e4
    subst e2
    exact ⟨cur, hg⟩
/-- the frame that is whole now, and what is behind it -/
theorem loop_cut {w wr w' : World} {b g off : Nat} {A : Option Addr} {n c : Nat} {l : List UInt8} {fv : Value} {cur : List UInt8} {n' c' h : Nat} {fs : List (List UInt8)} (H : Loop w wr b A n c l fv cur (some ⟨g, off, none⟩) n' c' fs)
    (hbk : Blk wr b 22 #[.slice (some ⟨g, off, none⟩) n' c']) (hb : b = w.heap.size) (ht : Turn (only b) wr w') (hok : 1 ≤ h ∧ h ≤ 512) (hle : 2 + h ≤ n') (ho : ∀ k, own_of A k → ∃ cur, w.heap[k]? = some (.cells cur 5 (0, 0))) :
    FrC w' (fun k => b < k ∨ own_of A k) (.slice (pos (some ⟨g, off, none⟩) 2 c') h h) ((cur.drop 2).take h) ∧ Bs w' (pos (pos (some ⟨g, off, none⟩) 2 c') h (c' - 2)) (n' - 2 - h) (cur.drop (2 + h)) ∧
      Frs w' (fun k => b < k ∨ own_of A k) fv fs := by
  obtain ⟨cu, hg⟩ := ho g (H.sub g ⟨off, none, rfl⟩)
  have hgw : g < w.heap.size := (Array.getElem?_eq_some_iff.1 hg).1
  have hne : g ≠ b := by omega
  have hgr : wr.heap[g]? = some (.cells cu 5 (0, 0)) := by rw [H.tr.block g hgw (fun e => e)]; exact hg
  have hg' : w'.heap[g]? = some (.cells cu 5 (0, 0)) := by rw [ht.block g (Array.getElem?_eq_some_iff.1 hgr).1 hne]; exact hgr
  have hbs : Bs w' (some ⟨g, off, none⟩) n' cur := H.bs.turn ht (fun b' off' s e _ _ => by injection e with e; injection e with e; subst e; exact hne)
  have hnc := H.nc
  have h2 := hbs.pos (k := 2) (c := c') (by omega) hnc
  refine ⟨?_, ?_, H.fr.turn ht fun k hk e => ?_⟩
  · rw [pos_at g off 2 c' (by omega)] at h2 ⊢
    exact ⟨g, off + 2, h, cu, rfl, by omega, h2.take (by omega), .inr (H.sub g ⟨off, none, rfl⟩), hg'⟩
  · have h3 := h2.pos (k := h) (c := c' - 2) (by omega) (by omega)
    rw [List.drop_drop] at h3
    exact h3
  · have e1 : k = b := e
    rcases hk with hk | hk
    · omega
    · obtain ⟨cu', hk'⟩ := ho k hk
      have := (Array.getElem?_eq_some_iff.1 hk').1
      omega
set_option maxRecDepth 20000 in
set_option maxHeartbeats 2000000 in
theorem split_walk {w : World} {n c : Nat} {A : Option Addr} {l : List UInt8} (hown : Own w 0 5 (.slice A n c) l) (hl : l.length ≤ 8796093022208) :
    Calls Try.prog 19 #[.slice A n c] w fun e w' => Told w w' A n c l e := by
  obtain ⟨hb0, hnc, hac⟩ := hown.bs
  have hmf := hmf
  have hnl : n = l.length := by have := hb0.1; omega
  have HO := Lib.hid hown
  have HL := Lib.hid hl
  have HB0 := Lib.hid hb0
  have HNC := Lib.hid hnc
  have HAC := Lib.hid hac
  have HNL := Lib.hid hnl
  clear hown hl hb0 hnc hac hnl
  go_enter Try.func19, Try.ntmps19

  go_upto_region 2 with fail
  have hb1 := Blk.new w 22 #[.slice A n c]
  have ht1 := (Turn.refl nowhere w).alloc (.cells #[.slice A n c] 22)
  obtain ⟨b, hbe⟩ : ∃ b, b = w.heap.size := ⟨_, rfl⟩
  rw [← hbe] at hb1
  rw [← hbe]
  generalize w.alloc (.cells #[.slice A n c] 22) = w1 at *
  have HB1 := Lib.hid hb1
  have HT1 := Lib.hid ht1
  have HBE := Lib.hid hbe
  clear hb1 ht1 hbe
  go_wp2_with fail
  go_loopg [5, 7] n (fun gk fv nv wr => ∃ (cur : List UInt8) (A' : Option Addr) (n' c' : Nat) (fs : List (List UInt8)), gk = n' ∧ Blk wr b 22 #[.slice A' n' c'] ∧ Loop w wr b A n c l fv cur A' n' c' fs)
  case atStart => exact ⟨l, A, n, c, [], rfl, HB1.out, HB0.out.still HT1.out, HNC.out, HAC.out, fun _ h => h, rfl, Frs.none_ _ _, HT1.out, fun _ => rfl, by have := HNL.out; simp; omega⟩
  obtain ⟨cur, A', n', c', fs, rfl, hbk, hLp⟩ := hrel
  have c0 := hbk.cell 0
  have HBK := Lib.hid hbk
  have HLP := Lib.hid hLp
  clear hbk hLp
  have hm : gk ≤ 8796093022208 := by have := loop_le HLP.out; have := HL.out; omega
  have HM := Lib.hid hm
  clear hm
  by_cases h2 : 2 ≤ gk
  · have hA : ∃ g off, A' = some ⟨g, off, none⟩ := by
      obtain ⟨g, off, e, _⟩ := HLP.out.bs.2.2 (by omega)
      exact ⟨g, off, e⟩
    obtain ⟨g, off, rfl⟩ := hA
    have y1 : (2 : Int) ≤ (gk : Int) := by omega
    have hlen := length_walk (c := c') HLP.out.bs h2
    have H2 := Lib.hid h2
    have HLEN := Lib.hid hlen
    clear h2 hlen
    go_upto_region 4 with fail
    go_upto_region 5 with (go_at_call 21; refine HLEN.out.mono ?_; rintro e w2 ⟨rfl, ht2⟩)
    clear HLEN
    have HBK := Lib.hid (HBK.out.turn ht2 (fun e => e))
    have HLP := Lib.hid (HLP.out.still ht2)
    have c0 := HBK.out.cell 0
    clear ht2
    have hh : hdr cur < 65536 := hdr_lt cur
    by_cases hok : 1 ≤ hdr cur ∧ hdr cur ≤ 512
    · have hisl := fun W => isLen_walk (hdr cur) W
      rw [decide_eq_true hok] at hisl
      have HDR := Lib.hid (show feed cur = (if gk < 2 + hdr cur then (⟨[], cur, true⟩ : Sp) else (feed (cur.drop (2 + hdr cur))).pre [(cur.drop 2).take (hdr cur)]) from feed_mid HLP.out.bs.1 H2.out hok)
      generalize hdr cur = h at *
      have HOK := Lib.hid hok
      have HIS := Lib.hid hisl
      have HH := Lib.hid hh
      clear hok hisl hh
      go_upto_region 7 with (go_at_call 18; refine (HIS.out _).mono ?_; rintro e w3 ⟨rfl, rfl⟩)
      by_cases hlt : gk < 2 + h
      · have y2 : (gk : Int) < 2 + (h : Int) := by omega
        have y3 : (h : Int) < 65536 := by have := HH.out; omega
        have HF := HDR.out
        rw [if_pos hlt] at HF
        have HF := Lib.hid HF
        clear hlt
        go_wp2_with fail
        refine wp_region_alw (fun W => W.cell? ⟨b, 0, none⟩ = some (.slice (some ⟨g, off, none⟩) gk c')) (by kernel_rfl) ?_
        have hS : w3.drew.cell? ⟨b, 0, none⟩ = some (.slice (some ⟨g, off, none⟩) gk c') := c0
        refine alw_take (i := 0) (v := u5) rfl (by kernel_rfl) (by kernel_rfl) (fun _ _ _ h => h) (.inl ⟨by rfl, fun W hW => exec_move rfl rfl⟩) hS ?_
        simp only [Act.put, List.setIfInBounds_toArray, List.set_cons_zero, List.set_cons_succ]
        refine alw_take (i := 1) (v := .slice (some ⟨g, off, none⟩) gk c') rfl (by kernel_rfl) (by kernel_rfl) (fun _ _ _ h => h) (.inl ⟨by rfl, fun W hW => lx_sl rfl rfl hW⟩) hS ?_
        simp only [Act.put, List.setIfInBounds_toArray, List.set_cons_zero, List.set_cons_succ]
        refine alw_take (i := 2) (v := u5) rfl (by kernel_rfl) (by kernel_rfl) (fun _ _ _ h => h) (.inl ⟨by rfl, fun W hW => gx_assign rfl rfl⟩) hS ?_
        simp only [Act.put, List.setIfInBounds_toArray, List.set_cons_zero, List.set_cons_succ]
        refine alw_take (i := 3) (v := .slice (some ⟨g, off, none⟩) gk c') rfl (by kernel_rfl) (by kernel_rfl) (fun _ _ _ h => h) (.inl ⟨by rfl, fun W hW => gx_assign rfl rfl⟩) hS ?_
        simp only [Act.put, List.setIfInBounds_toArray, List.set_cons_zero, List.set_cons_succ]
        refine alw_take (i := 4) (v := .int .i64 0) rfl (by kernel_rfl) (by kernel_rfl) (fun _ _ _ h => h) (.inl ⟨by rfl, fun W hW => gx_assign rfl rfl⟩) hS ?_
        simp only [Act.put, List.setIfInBounds_toArray, List.set_cons_zero, List.set_cons_succ]
        refine alw_done (by kernel_rfl) ?_
        refine NoPanic.normal ?_
        go_wp2_with fail
        go_ret3
        exact loop_ok HBE.out (HLP.out.still (Turn.drew (Turn.refl _ _))) HF.out

      · have y2 : ¬ ((gk : Int) < 2 + (h : Int)) := by omega
        have y3 : (h : Int) < 65536 := by have := HH.out; omega
        have hle : 2 + h ≤ gk := by omega
        have HF := HDR.out
        rw [if_neg hlt] at HF
        have HF := Lib.hid HF
        have HLE := Lib.hid hle
        have hm63 : gk ≤ 9223372036854775807 := by have := HM.out; omega
        have HCUT := Lib.hid (cut_walk (k := 2) HBK.out H2.out HLP.out.nc hm63)
        clear hlt hle HDR hm63
        go_upto_region 8 with fail
        go_upto_region 9 with (go_at_call 20; refine HCUT.out.mono ?_; rintro e w4 ⟨rfl, hb4, ht4⟩)
        have HB4 := Lib.hid hb4
        have HT4 := Lib.hid ht4
        clear hb4 ht4 HCUT c0
        obtain ⟨hpc, hbs4, hrest⟩ := loop_cut HLP.out HBK.out HBE.out HT4.out HOK.out HLE.out (own_heap HO.out)
        have HPC := Lib.hid hpc
        have HBS4 := Lib.hid hbs4
        have HRE := Lib.hid hrest
        clear hpc hbs4 hrest
        have HCUT := Lib.hid (cut_walk (k := h) HB4.out (by have := HLE.out; omega) (by have := HLP.out.nc; omega) (by have := HM.out; omega))
        refine wp_region_lit ?_
        refine wpList_run (v := u5) rfl (exec_move rfl rfl) ?_
        simp only [Act.put, List.setIfInBounds_toArray, List.set_cons_zero, List.set_cons_succ]
        refine wpList_run (v := .func (.func 20) #[] #[.pointer (some ⟨b, 0, none⟩)]) rfl (exec_move rfl rfl) ?_
        simp only [Act.put, List.setIfInBounds_toArray, List.set_cons_zero, List.set_cons_succ]
        refine wpList_run (v := .int .i64 (h : Int)) rfl (exec_move rfl rfl) ?_
        simp only [Act.put, List.setIfInBounds_toArray, List.set_cons_zero, List.set_cons_succ]

        go_wp2_with fail
        refine HCUT.out.mono ?_
        rintro e w5 ⟨rfl, hb5, ht5⟩
        simp only [Act.put, List.setIfInBounds_toArray, List.set_cons_zero, List.set_cons_succ]
        rename_i K4 hK4
        refine hK4 _ _ ?_
        clear hK4
        have HB5 := Lib.hid hb5
        have HT5 := Lib.hid ht5
        clear hb5 ht5 HCUT
        have hnb : ∀ k, (b < k ∨ own_of A k) → ¬ only b k := fun k hk e => by
          have e1 : k = b := e
          rcases hk with hk | hk
          · omega
          · obtain ⟨cu', hk'⟩ := own_heap HO.out k hk
            have h1 := (Array.getElem?_eq_some_iff.1 hk').1
            have h2 := HBE.out
            omega
        have HPC5 := Lib.hid (HPC.out.turn HT5.out hnb)
        have HRE5 := Lib.hid (HRE.out.turn HT5.out hnb)
        have hbs5 := HBS4.out.turn HT5.out (fun b' off' s e _ _ => hnb b' (.inr (HLP.out.sub _ (own_pos (own_pos ⟨off', s, e⟩)))))
        have HBS5 := Lib.hid hbs5
        clear hbs5 hnb
        obtain ⟨i0, hi0, hz0, hz1, hz2⟩ := info_parts sliceInfo
        obtain ⟨pA, hpA⟩ : ∃ pA, pA = pos (some ⟨g, off, none⟩) 2 c' := ⟨_, rfl⟩
        rw [← hpA] at HPC5 HBS5 HB5 ⊢
        have HPA := Lib.hid hpA
        clear hpA
        have hbuild := run_buildSlice_one (P := Try.prog) (v := Value.slice pA h h) Try.underlying28 hi0 hz0 (by rw [hz1]; rfl) (by rw [hz1]; rfl) (by omega) (by omega) w5
        obtain ⟨A6, c6, w6, hrun, hfr6, hext6⟩ := frs_more (ty := 28) HRE5.out HPC5.out (by have := HLP.out.cnt; have := HL.out; omega) (fun k hk => .inl (by have := HB5.out.lt; omega))
        refine wpList_run (v := .slice (some ⟨w5.heap.size, 0, none⟩) 1 1) (w' := w5.alloc (.cells (Value.slice pA h h).cells 22)) rfl (exec_buildSlice1 rfl rfl hbuild) ?_
        simp only [Act.put, List.setIfInBounds_toArray, List.set_cons_zero, List.set_cons_succ]
        refine wpList_run (v := .slice A6 (fs.length + 1) c6) (w' := w6) rfl (exec_append rfl rfl rfl hrun) ?_
        simp only [Act.put, List.setIfInBounds_toArray, List.set_cons_zero, List.set_cons_succ]

        have HFR6 := Lib.hid hfr6
        have HE6 := Lib.hid hext6
        clear hrun hfr6 hext6 hbuild hz0 hz1 hz2 hi0
        have hnb5 : ∀ k, own_of A k → ¬ (some k = u5.ownBlock) := fun k hk e => by
          obtain ⟨cu', hk'⟩ := own_heap HO.out k hk
          obtain ⟨vals, q1, _⟩ := HRE5.out
          have hlt := (Array.getElem?_eq_some_iff.1 hk').1
          have ht : Turn nowhere w w5 := (HLP.out.tr.trans HT4.out (fun j hj e => by have h1 : j = b := e; have := HBE.out; omega)).trans HT5.out (fun j hj e => by have h1 : j = b := e; have := HBE.out; omega)
          have h5 := (ht.block k hlt (fun e => e)).trans hk'
          rcases q1.2 with ⟨rfl, _⟩ | ⟨g', cap, cur', rfl, _, hg', _⟩
          · cases e
          · have e2 : k = g' := Option.some.inj e
            subst e2
            rw [h5] at hg'
            injection hg' with h2
            injection h2 with _ h3
            exact absurd h3 (by decide)
        have HNB5 := Lib.hid hnb5
        clear hnb5
        go_wp2_with fail
        go_roundg (gk - 2 - h)
        case measure => have := HLE.out; have := HOK.out; omega
        case rel =>
          have hgt : ∀ k, some k = u5.ownBlock → b < k := fun k hk => by
            obtain ⟨vals, q1, q2, _⟩ := HRE5.out
            rcases q2 k hk.symm with h1 | h1
            · exact h1
            · exact absurd hk (HNB5.out k h1)
          have hne : ¬ (some b = u5.ownBlock) := fun e => Nat.lt_irrefl _ (hgt b e)
          refine ⟨cur.drop (2 + h), pos pA h (c' - 2), gk - 2 - h, c' - 2 - h, fs ++ [(cur.drop 2).take h], rfl, HB5.out.turn HE6.out.tr hne, ?_⟩
          refine ⟨HBS5.out.turn HE6.out.tr (fun b' off' s e _ _ => HNB5.out _ (HLP.out.sub _ (own_pos (c := c') (k := 2) (by rw [← HPA.out]; exact own_pos ⟨off', s, e⟩)))), by have := HLP.out.nc; have := HLE.out; omega, fun e => by rw [HPA.out] at e; simp [pos_none] at e, fun k hk => HLP.out.sub _ (own_pos (c := c') (k := 2) (by rw [← HPA.out]; exact own_pos hk)), ?_, HFR6.out, ?_, fun e => by simp at e, ?_⟩
          · rw [HLP.out.fd, HF.out, pre_pre]
          · exact ((HLP.out.tr.trans HT4.out (fun j hj e => by have h1 : j = b := e; have := HBE.out; omega)).trans HT5.out (fun j hj e => by have h1 : j = b := e; have := HBE.out; omega)).trans HE6.out.tr (fun j hj e => by
              have h1 := hgt j e
              have h2 := HBE.out
              omega)
          · have := HLP.out.cnt
            have := HOK.out
            have := HLE.out
            rw [List.length_append, List.length_cons, List.length_nil]
            omega
    · have hisl := fun W => isLen_walk (hdr cur) W
      rw [decide_eq_false hok] at hisl
      have HF := Lib.hid (feed_bad (l := cur) (by rw [HLP.out.bs.1]; exact H2.out) (by omega))
      generalize hdr cur = h at *
      have HIS := Lib.hid hisl
      clear hok hisl hh
      go_wp2_with (go_at_call 18; refine (HIS.out _).mono ?_; rintro e w3 ⟨rfl, rfl⟩)
      go_ret3
      exact loop_bad HBE.out HLP.out HF.out
  · have y1 : ¬ ((2 : Int) ≤ (gk : Int)) := by omega
    have HF := Lib.hid (feed_few (l := cur) (by rw [HLP.out.bs.1]; omega))
    clear h2
    go_wp2_with fail
    refine wp_region_alw (fun W => W.cell? ⟨b, 0, none⟩ = some (.slice A' gk c')) (by kernel_rfl) ?_
    have hS : wr.drew.cell? ⟨b, 0, none⟩ = some (.slice A' gk c') := c0
    refine alw_take (i := 0) (v := u5) rfl (by kernel_rfl) (by kernel_rfl) (fun _ _ _ h => h) (.inl ⟨by rfl, fun W hW => exec_move rfl rfl⟩) hS ?_
    simp only [Act.put, List.setIfInBounds_toArray, List.set_cons_zero, List.set_cons_succ]
    refine alw_take (i := 1) (v := .slice A' gk c') rfl (by kernel_rfl) (by kernel_rfl) (fun _ _ _ h => h) (.inl ⟨by rfl, fun W hW => lx_sl rfl rfl hW⟩) hS ?_
    simp only [Act.put, List.setIfInBounds_toArray, List.set_cons_zero, List.set_cons_succ]
    refine alw_take (i := 2) (v := u5) rfl (by kernel_rfl) (by kernel_rfl) (fun _ _ _ h => h) (.inl ⟨by rfl, fun W hW => gx_assign rfl rfl⟩) hS ?_
    simp only [Act.put, List.setIfInBounds_toArray, List.set_cons_zero, List.set_cons_succ]
    refine alw_take (i := 3) (v := .slice A' gk c') rfl (by kernel_rfl) (by kernel_rfl) (fun _ _ _ h => h) (.inl ⟨by rfl, fun W hW => gx_assign rfl rfl⟩) hS ?_
    simp only [Act.put, List.setIfInBounds_toArray, List.set_cons_zero, List.set_cons_succ]
    refine alw_take (i := 4) (v := .int .i64 0) rfl (by kernel_rfl) (by kernel_rfl) (fun _ _ _ h => h) (.inl ⟨by rfl, fun W hW => gx_assign rfl rfl⟩) hS ?_
    simp only [Act.put, List.setIfInBounds_toArray, List.set_cons_zero, List.set_cons_succ]
    refine alw_done (by kernel_rfl) ?_
    refine NoPanic.normal ?_
    go_wp2_with fail
    go_ret3
    exact loop_ok HBE.out (HLP.out.still (Turn.drew (Turn.refl _ _))) HF.out

end Go.Proofs.Ytagoijgmoaffdaa
