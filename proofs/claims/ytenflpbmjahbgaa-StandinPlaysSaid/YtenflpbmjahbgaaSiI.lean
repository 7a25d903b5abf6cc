/-
  standin's Plays: the law's walk. No conditions.
-/
import Derived.Test.YtenflpbmjahbgaaSiF
import Derived.Shelf.SlMaps.Clone
import Derived.WalkSpells
import Derived.Lib.SliceRun
namespace Go.Proofs.Ytenflpbmjahbgaa
open Go.RowKit Go.Maps
open Si (Card Lims)
set_option linter.unusedVariables false
set_option linter.unusedSimpArgs false
set_option maxRecDepth 20000
/-- the row that was handed in -/
def ownF (v : Value) : Nat → Prop := fun k => v.ownBlock = some k
def Room (w : World) (v : Value) (n : Nat) : Prop := ∀ g, v.ownBlock = some g → ∃ cur, Blk w g 30 cur ∧ n * 2 ≤ cur.size
theorem room_of {w : World} {B n c : Nat} {A : Option Addr} {rs : List (List Value)} (h : Orw w B 30 2 (.slice A n c) rs) : Room w (.slice A n c) n := fun g hg => by
  rcases h.2.2 with ⟨e, _⟩ | ⟨g', cap, cur, e, hb, hg', h1, h2, h3, h4⟩
  · injection e with e1
    subst e1
    cases hg
  · injection e with e1 e2 e3
    subst e1 e3
    obtain rfl : g' = g := by injection hg
    exact ⟨cur, hg', by rw [h3]; have := h.2.1; have hl := flat_len h.1; omega⟩
theorem desk_own {w w' : World} {a b n B m c : Nat} {l : Lims} {h : Card → Int} {A : Option Addr} (d : Desk w a b l n h) (hl : LimB w (.pointer (some ⟨a, 0, none⟩)) B) (hb : B ≤ b) (hv : ∀ g, (Value.slice A m c).ownBlock = some g → g < B ∧ ∃ cur, Blk w g 30 cur) (ht : Turn (ownF (.slice A m c)) w w') : Desk w' a b l n h := by
  obtain ⟨⟨A1, c1, h1, h2⟩, ⟨f, h3, h4⟩, h5, h6, h7⟩ := d
  obtain ⟨a', A', n', c', m', e, g1, g2⟩ := hl
  injection e with e
  injection e with e
  injection e with e _ _
  subst e
  have hcs := h1.inj g1
  have hs : A1 = A' ∧ l.length = n' ∧ c1 = c' := by
    have := congrArg (fun z => z[0]?) hcs
    simpa using this
  refine ⟨⟨A1, c1, h1.turn ht (fun e => ?_), h2.turn ht fun g hg e => ?_⟩, ⟨f, h3.turn ht (fun e => ?_), h4⟩, h5, h6, h7⟩
  · obtain ⟨cur, hc⟩ := (hv _ e).2
    exact h1.ne_ hc (by decide) rfl
  · obtain ⟨rfl, rfl, rfl⟩ := hs
    have h8 := g2 g hg
    have h9 := (hv g e).1
    omega
  · have h9 := (hv b e).1
    omega
theorem own_off {w : World} {B n c k : Nat} {t : TypeId} {A : Option Addr} {rs : List (List Value)} (h : Orw w B t k (.slice A n c) rs) : ∀ g off, A = some ⟨g, off, none⟩ → off = 0 := fun g off e => by
  rcases h.2.2 with ⟨e2, _⟩ | ⟨g', cap, cur, e2, _⟩
  · injection e2 with e1
    rw [e] at e1
    cases e1
  · injection e2 with e1
    rw [e] at e1
    injection e1 with e1
    injection e1
theorem MadeD.turn_ {w w' : World} {l : Lims} {n : Nat} {h : Card → Int} {p : Value} (d : MadeD w l n h p w') : Turn nowhere w w' := by obtain ⟨a, b, _, _, _, _, h⟩ := d; exact h
theorem MadeR.turn_ {w w' : World} {l : Lims} {n : Nat} {h : Card → Int} {p : Value} (d : MadeR w l n h p w') : Turn nowhere w w' := by obtain ⟨a, _, _, _, h⟩ := d; exact h
theorem New_lim {w : World} {A : Option Addr} {n c : Nat} {l : Lims} (hr : Rws w 2 A n (l.map limC)) (hcc : A = none → c = 0) (hn : n ≤ 140737488355328) (h0 : Si.newE l = 0) :
    Calls Try.prog 7 #[.slice A n c] w fun e w' => ∃ a b, e = .returned (.tuple #[.pointer (some ⟨a, 0, none⟩), .int .i64 0]) ∧ Desk w' a b l 0 (fun _ => 0) ∧ LimB w' (.pointer (some ⟨a, 0, none⟩)) w.heap.size ∧ w.heap.size ≤ a ∧ w.heap.size ≤ b ∧ Turn nowhere w w' :=
  (New_walk hr hcc hn).mono fun e w' h => by
    rcases h with ⟨h, _⟩ | ⟨_, p, he, ⟨a, b, rfl, h1, h2, h3, h4⟩, h5⟩
    · exact absurd h0 h
    · exact ⟨a, b, he, h1, h5, h2, h3, h4⟩
theorem rNew_ok {w : World} {A : Option Addr} {n c : Nat} {l : Lims} (hr : Rws w 2 A n (l.map limC)) (hcc : A = none → c = 0) (hn : n ≤ 140737488355328) (h0 : Si.newE l = 0) :
    Calls Try.prog 8 #[.slice A n c] w fun e w' => ∃ y, e = .returned (.tuple #[.pointer (some ⟨y, 0, none⟩), .int .i64 0]) ∧ RDesk w' y l 0 (fun _ => 0) ∧ w.heap.size ≤ y ∧ Turn nowhere w w' :=
  (rNew_walk hr hcc hn).mono fun e w' h => by
    rcases h with ⟨h, _⟩ | ⟨_, p, he, y, rfl, h1, h2, h3⟩
    · exact absurd h0 h
    · exact ⟨y, he, h1, h2, h3⟩
theorem rNew_no {w : World} {A : Option Addr} {n c : Nat} {l : Lims} (hr : Rws w 2 A n (l.map limC)) (hcc : A = none → c = 0) (hn : n ≤ 140737488355328) (h0 : Si.newE l ≠ 0) :
    Calls Try.prog 8 #[.slice A n c] w fun e w' => e = .returned (.tuple #[.pointer none, .int .i64 (Si.newE l)]) ∧ Turn nowhere w w' :=
  (rNew_walk hr hcc hn).mono fun e w' h => by
    rcases h with ⟨_, h⟩ | ⟨h, _⟩
    · exact h
    · exact absurd h h0
theorem Clone_is {w : World} {a b n : Nat} {l : Lims} {h : Card → Int} (d : Desk w a b l n h) :
    Calls Try.prog 9 #[.pointer (some ⟨a, 0, none⟩)] w fun e w' => ∃ a2 b2, e = .returned (.pointer (some ⟨a2, 0, none⟩)) ∧ Desk w' a2 b2 l n h ∧ w.heap.size ≤ a2 ∧ w.heap.size ≤ b2 ∧ Turn nowhere w w' :=
  (Clone_walk d).mono fun e w' ⟨p, he, a2, b2, hp, h⟩ => ⟨a2, b2, by rw [he, hp], h⟩
theorem rClone_is {w : World} {y n : Nat} {l : Lims} {h : Card → Int} (d : RDesk w y l n h) :
    Calls Try.prog 10 #[.pointer (some ⟨y, 0, none⟩)] w fun e w' => ∃ u, e = .returned (.pointer (some ⟨u, 0, none⟩)) ∧ RDesk w' u l n h ∧ w.heap.size ≤ u ∧ Turn nowhere w w' :=
  (rClone_walk d).mono fun e w' ⟨p, he, u, hp, h⟩ => ⟨u, by rw [he, hp], h⟩
theorem rAsk_at {w : World} {y n : Nat} {l : Lims} {h : Card → Int} (d : RDesk w y l n h) (hn : n ≤ 1000000) {mm x E : Int} {pan : List UInt8} {H : Card → Int} (hE : Si.askE l h (mm, pan) x = E) (hH : Si.askH l h (mm, pan) x = H) :
    Calls Try.prog 15 #[.pointer (some ⟨y, 0, none⟩), .int .i64 mm, strV pan, .int .i64 x] w fun e w' => e = .returned (.int .i64 E) ∧ RDesk w' y l (n + 1) H ∧ Turn (only y) w w' := by
  subst hE hH
  exact rAsk_walk d hn
theorem st_one (x y : Int) : ∀ v ∈ (#[.int .i64 x, .int .i64 y] : Array Value).toList, v.oneCell' = true := stA_one (x, y)
set_option maxRecDepth 20000 in
set_option maxHeartbeats 4000000 in
theorem plays_walk {A B : Option Addr} {m q n c : Nat} {l : Lims} {os : List SOp} (W : World) (hr : Rws W 2 A m (l.map limC)) (hcc : A = none → q = 0) (hm : m * 16 ≤ 140737488355328) (hk : OpAt W B n os) (hb : n ≤ 140737488355328) :
    Calls Try.prog 3 #[.slice A m q, .slice B n c] W fun e w' => e = .returned (.bool true) ∧ Turn nowhere W w' := by
  have HR := Lib.hid hr
  have HLN := Lib.hid (lim_len hr)
  have HCC := Lib.hid hcc
  have HK := Lib.hid hk
  have HOL := Lib.hid hk.len
  have HM := Lib.hid hm
  have HM2 := Lib.hid (show m ≤ 140737488355328 from by omega)
  have yn : (n : Int) ≤ 140737488355328 := by omega
  have ym : (m : Int) ≤ 140737488355328 := by omega
  clear hk hb hr hcc hm
  go_enter Try.func3, Try.ntmps3
  go_upto_region 0 with fail
  refine wp_region_lit ?_
  refine wpList_run (v := .bool false) (wanted_none rfl) (gx_assign rfl rfl) ?_
  simp only [Act.put, List.setIfInBounds_toArray, List.set_cons_zero, List.set_cons_succ]
  go_upto_region 1 with fail
  refine wp_region_lit ?_
  refine wpList_op (wanted_none rfl) fun K9 HK9 => ?_
  go_wp2_with fail
  refine (shown_walk W).mono ?_
  rintro e w1 ⟨rfl, ht⟩
  refine HK9.out _ _ ?_
  clear HK9
  try simp only [Act.put, List.setIfInBounds_toArray, List.set_cons_zero, List.set_cons_succ]
  have HT1 := Lib.hid ht
  obtain ⟨A2, c2, w2, hrun, hor, ht2⟩ := copy_rws elmS (ty := 22) (c := q) (HR.out.still ht) (limC_fit l) HCC.out HM.out
  have HRUN := Lib.hid hrun
  have HOR := Lib.hid hor
  have HT2 := Lib.hid (ht.trans ht2 fun _ _ e => e)
  clear ht hrun hor ht2
  refine wpList_run (v := .bool true) (wanted_none rfl) (gx_assign rfl rfl) ?_
  simp only [Act.put, List.setIfInBounds_toArray, List.set_cons_zero, List.set_cons_succ]
  go_upto_region 2 with fail
  refine wp_region_lit ?_
  refine wpList_run (v := .slice (some ⟨w1.heap.size, 0, none⟩) 0 0) (w' := w1.alloc (.cells #[] 30)) (wanted_none rfl) (bx_slice0 rfl (build0S _)) ?_
  simp only [Act.put, List.setIfInBounds_toArray, List.set_cons_zero, List.set_cons_succ]
  refine wpList_run (v := .slice A m q) (wanted_none rfl) (exec_move rfl rfl) ?_
  simp only [Act.put, List.setIfInBounds_toArray, List.set_cons_zero, List.set_cons_succ]
  refine wpList_run (v := .slice A2 m c2) (w' := w2) (wanted_none rfl) (exec_append rfl rfl rfl HRUN.out) ?_
  simp only [Act.put, List.setIfInBounds_toArray, List.set_cons_zero, List.set_cons_succ]
  refine wpList_run (v := .slice A2 m c2) (wanted_none rfl) (gx_assign rfl rfl) ?_
  simp only [Act.put, List.setIfInBounds_toArray, List.set_cons_zero, List.set_cons_succ]
  have HR2 := Lib.hid (HOR.out.rws (by rw [List.length_map, HLN.out]; exact HM2.out) (by decide))
  have HCC2 := Lib.hid (show A2 = none → c2 = 0 from by obtain ⟨A9, c9, e, _, _, h, _⟩ := HOR.out.form; injection e with e1 e2 e3; subst e1 e3; exact h)
  have HRM2 := Lib.hid (room_of HOR.out)
  have HLT2 := Lib.hid (show ∀ g, (Value.slice A2 m c2).ownBlock = some g → W.heap.size ≤ g ∧ g < w2.heap.size from fun g hg => ⟨Nat.le_trans HT1.out.size (HOR.out.lt hg).1, (HOR.out.lt hg).2⟩)
  have HOR2 := HOR
  clear HOR
  by_cases hz : Si.newE l = 0
  · have HZ := Lib.hid hz
    clear hz
    go_upto_region 3 with fail
    refine wp_region_lit ?_
    refine wpList_run (v := .slice A2 m c2) (wanted_none rfl) (exec_move rfl rfl) ?_
    simp only [Act.put, List.setIfInBounds_toArray, List.set_cons_zero, List.set_cons_succ]
    refine wpList_op (wanted_none rfl) fun K9 HK9 => ?_
    go_wp2_with fail
    refine (New_lim (c := c2) HR2.out HCC2.out HM2.out HZ.out).mono ?_
    rintro e w3 ⟨x, bx, rfl, hd, hlim, hla, hlb, ht⟩
    refine HK9.out _ _ ?_
    clear HK9
    try simp only [Act.put, List.setIfInBounds_toArray, List.set_cons_zero, List.set_cons_succ]
    have HD3 := Lib.hid hd
    have HLM3 := Lib.hid hlim
    have HLB3 := Lib.hid hlb
    have HLB := Lib.hid (show W.heap.size ≤ bx from Nat.le_trans HT2.out.size hlb)
    have HT3 := Lib.hid (HT2.out.trans ht fun _ _ e => e)
    have HOFF := Lib.hid (show ∀ g off, A2 = some ⟨g, off, none⟩ → off = 0 from own_off HOR2.out)
    have HRM3 := Lib.hid (show Room w3 (.slice A2 m c2) m from fun g hg => by
      obtain ⟨cur, h1, h2⟩ := HRM2.out g hg
      exact ⟨cur, h1.turn ht fun e => e, h2⟩)
    clear hd hlim hla hlb ht
    refine wpList_run (v := .tuple #[.pointer (some ⟨x, 0, none⟩), .int .i64 0]) (wanted_none rfl) (exec_move rfl rfl) ?_
    simp only [Act.put, List.setIfInBounds_toArray, List.set_cons_zero, List.set_cons_succ]
    refine wpList_run (v := .pointer (some ⟨x, 0, none⟩)) (wanted_none rfl) (ix_extract rfl rfl rfl) ?_
    simp only [Act.put, List.setIfInBounds_toArray, List.set_cons_zero, List.set_cons_succ]
    refine wpList_run (v := .int .i64 0) (wanted_none rfl) (ix_extract rfl rfl rfl) ?_
    simp only [Act.put, List.setIfInBounds_toArray, List.set_cons_zero, List.set_cons_succ]
    refine wpList_run (v := .pointer (some ⟨x, 0, none⟩)) (wanted_none rfl) (gx_assign rfl rfl) ?_
    simp only [Act.put, List.setIfInBounds_toArray, List.set_cons_zero, List.set_cons_succ]
    refine wpList_run (v := .int .i64 0) (wanted_none rfl) (gx_assign rfl rfl) ?_
    simp only [Act.put, List.setIfInBounds_toArray, List.set_cons_zero, List.set_cons_succ]
    go_upto_region 4 with fail
    refine wp_region_lit ?_
    refine wpList_run (v := .int .i64 0) (wanted_none rfl) (gx_assign rfl rfl) ?_
    simp only [Act.put, List.setIfInBounds_toArray, List.set_cons_zero, List.set_cons_succ]
    go_wp2_with fail
    go_loopg [9] m (fun gk iv wr => ∃ i : Nat, iv = .int .i64 (i : Int) ∧ i + gk = m ∧ Room wr (.slice A2 m c2) m ∧ Turn (ownF (.slice A2 m c2)) w3 wr)
    case atStart => exact ⟨0, rfl, by omega, HRM3.out, Turn.refl _ _⟩
    obtain ⟨i, rfl, hgk, hrm, hto⟩ := hrel
    have HGK := Lib.hid hgk
    have HRM := Lib.hid hrm
    have HTO := Lib.hid hto
    have yi : (i : Int) ≤ (m : Int) := by omega
    clear hgk hrm hto
    by_cases hlt : i < m
    · as_aux_lemma =>
        have HLT := Lib.hid hlt
        have y3 : (i : Int) < (m : Int) := by omega
        obtain ⟨g, off, rfl⟩ : ∃ g off, A2 = some ⟨g, off, none⟩ := by
          obtain ⟨_, _, _, h4⟩ := HR2.out
          obtain ⟨g, off, e, _⟩ := h4 (by omega)
          exact ⟨g, off, e⟩
        have hoff : off = 0 := HOFF.out g off rfl
        subst hoff
        obtain ⟨cur, hcb, hcs⟩ := HRM.out g rfl
        have HCB := Lib.hid hcb
        have HCS := Lib.hid hcs
        clear hlt hcb hcs
        go_upto_region 5 with fail
        refine wp_region_lit ?_
        refine wpList_run (v := .int .i64 (i : Int)) (wanted_none rfl) (exec_move rfl rfl) ?_
        simp only [Act.put, List.setIfInBounds_toArray, List.set_cons_zero, List.set_cons_succ]
        refine wpList_run (v := .slice (some ⟨g, 0, none⟩) m c2) (wanted_none rfl) (exec_move rfl rfl) ?_
        simp only [Act.put, List.setIfInBounds_toArray, List.set_cons_zero, List.set_cons_succ]
        refine wpList_run (v := .int .i64 (m : Int)) (wanted_none rfl) (gx_len rfl rfl Try.underlying22) ?_
        simp only [Act.put, List.setIfInBounds_toArray, List.set_cons_zero, List.set_cons_succ]
        refine wpList_run (v := .bool true) (wanted_none rfl) (ix_lss rfl rfl rfl (decide_eq_true y3)) ?_
        simp only [Act.put, List.setIfInBounds_toArray, List.set_cons_zero, List.set_cons_succ]
        go_upto_region 7 with fail
        refine wp_region_lit ?_
        refine wpList_run (v := .slice (some ⟨g, 0, none⟩) m c2) (wanted_none rfl) (exec_move rfl rfl) ?_
        simp only [Act.put, List.setIfInBounds_toArray, List.set_cons_zero, List.set_cons_succ]
        refine wpList_run (v := .int .i64 (i : Int)) (wanted_none rfl) (exec_move rfl rfl) ?_
        simp only [Act.put, List.setIfInBounds_toArray, List.set_cons_zero, List.set_cons_succ]
        refine wpList_run (v := .agg #[.int .i64 549755813888, .int .i64 549755813888]) (wanted_none rfl) (exec_bst rfl) ?_
        simp only [Act.put, List.setIfInBounds_toArray, List.set_cons_zero, List.set_cons_succ]
        refine wpList_run (v := .pointer (some ⟨g, 0 + i * 2, none⟩)) (wanted_none rfl) (gx_iaddr (i := i) (sz := 2) rfl rfl rfl Try.underlying22 size_st HLT.out rfl) ?_
        simp only [Act.put, List.setIfInBounds_toArray, List.set_cons_zero, List.set_cons_succ]
        refine wpList_store_mid (wanted_none rfl) 30 (.tmp 36) (.tmp 35) rfl #[.int .i64 549755813888, .int .i64 549755813888] HCB.out rfl rfl (by have := HLT.out; have := HCS.out; show 0 + i * 2 + 2 ≤ cur.size; omega) (by rw [size_st]; rfl) (st_one _ _) ?_
        intro w4 C4 hb4 hs4 hc4 ht4
        have HRM4 := Lib.hid (show Room w4 (.slice (some ⟨g, 0, none⟩) m c2) m from fun g9 hg9 => by
          obtain rfl : g = g9 := by injection hg9
          exact ⟨C4, hb4, by rw [hs4]; exact HCS.out⟩)
        have HTO4 := Lib.hid (HTO.out.trans ht4 fun k hk e => by have e : k = g := e; rw [e]; rfl)
        clear hb4 hs4 hc4 ht4
        simp only [Act.put, List.setIfInBounds_toArray, List.set_cons_zero, List.set_cons_succ]
        go_upto_region 6 with fail
        refine wp_region_lit ?_
        refine wpList_run (v := .int .i64 (i : Int)) (wanted_none rfl) (exec_move rfl rfl) ?_
        simp only [Act.put, List.setIfInBounds_toArray, List.set_cons_zero, List.set_cons_succ]
        refine wpList_run (v := .int .i64 ((i + 1 : Nat) : Int)) (wanted_none rfl) (ix_add rfl rfl rfl (by omega) (by omega)) ?_
        simp only [Act.put, List.setIfInBounds_toArray, List.set_cons_zero, List.set_cons_succ]
        refine wpList_run (v := .int .i64 ((i + 1 : Nat) : Int)) (wanted_none rfl) (gx_assign rfl rfl) ?_
        simp only [Act.put, List.setIfInBounds_toArray, List.set_cons_zero, List.set_cons_succ]
        go_wp2_with fail
        go_roundg (m - (i + 1))
        case measure => have := HGK.out; have := HLT.out; omega
        case rel => exact ⟨i + 1, rfl, by have := HLT.out; omega, HRM4.out, HTO4.out⟩
    · obtain rfl : i = m := by omega
      have y3 : ¬ (i : Int) < (i : Int) := by omega
      clear hlt
      go_upto_region 5 with fail
      refine wp_region_lit ?_
      refine wpList_run (v := .int .i64 (i : Int)) (wanted_none rfl) (exec_move rfl rfl) ?_
      simp only [Act.put, List.setIfInBounds_toArray, List.set_cons_zero, List.set_cons_succ]
      refine wpList_run (v := .slice A2 i c2) (wanted_none rfl) (exec_move rfl rfl) ?_
      simp only [Act.put, List.setIfInBounds_toArray, List.set_cons_zero, List.set_cons_succ]
      refine wpList_run (v := .int .i64 (i : Int)) (wanted_none rfl) (gx_len rfl rfl Try.underlying22) ?_
      simp only [Act.put, List.setIfInBounds_toArray, List.set_cons_zero, List.set_cons_succ]
      refine wpList_run (v := .bool false) (wanted_none rfl) (ix_lss rfl rfl rfl (decide_eq_false y3)) ?_
      simp only [Act.put, List.setIfInBounds_toArray, List.set_cons_zero, List.set_cons_succ]
      have HT5 := Lib.hid (HT3.out.trans HTO.out fun k hk e => by
        have h9 := (HLT2.out k e).1
        omega)
      have HR5 := Lib.hid (HR.out.still HT5.out)
      have HD5 := Lib.hid (desk_own HD3.out HLM3.out HLB3.out (fun g hg => by
        obtain ⟨cur, h1, _⟩ := HRM3.out g hg
        exact ⟨(HLT2.out g hg).2, cur, h1⟩) HTO.out)
      clear HD3 HTO HRM HRM3
      go_upto_region 8 with fail
      refine wp_region_lit ?_
      refine wpList_run (v := .slice A i q) (wanted_none rfl) (exec_move rfl rfl) ?_
      simp only [Act.put, List.setIfInBounds_toArray, List.set_cons_zero, List.set_cons_succ]
      refine wpList_op (wanted_none rfl) fun K9 HK9 => ?_
      go_wp2_with fail
      refine (rNew_ok (c := q) HR5.out HCC.out HM2.out HZ.out).mono ?_
      rintro e w6 ⟨y, rfl, hry, hly, ht⟩
      refine HK9.out _ _ ?_
      clear HK9
      try simp only [Act.put, List.setIfInBounds_toArray, List.set_cons_zero, List.set_cons_succ]
      have HD6 := Lib.hid (HD5.out.still ht)
      have HR6 := Lib.hid hry
      have HLY := Lib.hid (show W.heap.size ≤ y from Nat.le_trans HT5.out.size hly)
      have HT6 := Lib.hid (HT5.out.trans ht fun _ _ e => e)
      clear HD5 hry hly ht
      refine wpList_run (v := .tuple #[.pointer (some ⟨y, 0, none⟩), .int .i64 0]) (wanted_none rfl) (exec_move rfl rfl) ?_
      simp only [Act.put, List.setIfInBounds_toArray, List.set_cons_zero, List.set_cons_succ]
      refine wpList_run (v := .pointer (some ⟨y, 0, none⟩)) (wanted_none rfl) (ix_extract rfl rfl rfl) ?_
      simp only [Act.put, List.setIfInBounds_toArray, List.set_cons_zero, List.set_cons_succ]
      refine wpList_run (v := .int .i64 0) (wanted_none rfl) (ix_extract rfl rfl rfl) ?_
      simp only [Act.put, List.setIfInBounds_toArray, List.set_cons_zero, List.set_cons_succ]
      refine wpList_run (v := .pointer (some ⟨y, 0, none⟩)) (wanted_none rfl) (gx_assign rfl rfl) ?_
      simp only [Act.put, List.setIfInBounds_toArray, List.set_cons_zero, List.set_cons_succ]
      refine wpList_run (v := .int .i64 0) (wanted_none rfl) (gx_assign rfl rfl) ?_
      simp only [Act.put, List.setIfInBounds_toArray, List.set_cons_zero, List.set_cons_succ]
      go_upto_region 9 with fail
      refine wp_region_lit ?_
      refine wpList_run (v := .bool true) (wanted_none rfl) (exec_move rfl rfl) ?_
      simp only [Act.put, List.setIfInBounds_toArray, List.set_cons_zero, List.set_cons_succ]
      refine wpList_run (v := .bool false) (wanted_none rfl) (ix_not (b := true) rfl rfl) ?_
      simp only [Act.put, List.setIfInBounds_toArray, List.set_cons_zero, List.set_cons_succ]
      refine wpList_run (v := .bool false) (wanted_none rfl) (exec_move rfl rfl) ?_
      simp only [Act.put, List.setIfInBounds_toArray, List.set_cons_zero, List.set_cons_succ]
      refine wpList_run (v := .int .i64 0) rfl (exec_move rfl rfl) ?_
      simp only [Act.put, List.setIfInBounds_toArray, List.set_cons_zero, List.set_cons_succ]
      refine wpList_run (v := .int .i64 0) rfl (exec_move rfl rfl) ?_
      simp only [Act.put, List.setIfInBounds_toArray, List.set_cons_zero, List.set_cons_succ]
      refine wpList_run (v := .bool false) rfl (ix_neq rfl rfl rfl (by decide)) ?_
      simp only [Act.put, List.setIfInBounds_toArray, List.set_cons_zero, List.set_cons_succ]
      refine wpList_run (v := .bool false) (wanted_none rfl) (ix_pickF rfl rfl rfl) ?_
      simp only [Act.put, List.setIfInBounds_toArray, List.set_cons_zero, List.set_cons_succ]
      refine wpList_run (v := .bool false) (wanted_none rfl) (exec_move rfl rfl) ?_
      simp only [Act.put, List.setIfInBounds_toArray, List.set_cons_zero, List.set_cons_succ]
      refine wpList_run (v := .pointer (some ⟨x, 0, none⟩)) rfl (exec_move rfl rfl) ?_
      simp only [Act.put, List.setIfInBounds_toArray, List.set_cons_zero, List.set_cons_succ]
      refine wpList_run (v := .bool false) rfl (ptr_eqn (.inl rfl) rfl rfl rfl) ?_
      simp only [Act.put, List.setIfInBounds_toArray, List.set_cons_zero, List.set_cons_succ]
      refine wpList_run (v := .pointer (some ⟨y, 0, none⟩)) rfl (exec_move rfl rfl) ?_
      simp only [Act.put, List.setIfInBounds_toArray, List.set_cons_zero, List.set_cons_succ]
      refine wpList_run (v := .bool false) rfl (ptr_eqn (.inr rfl) rfl rfl rfl) ?_
      simp only [Act.put, List.setIfInBounds_toArray, List.set_cons_zero, List.set_cons_succ]
      refine wpList_run (v := .bool false) rfl (bx_neb (p := false) (q := false) rfl rfl rfl) ?_
      simp only [Act.put, List.setIfInBounds_toArray, List.set_cons_zero, List.set_cons_succ]
      refine wpList_run (v := .bool false) (wanted_none rfl) (ix_pickF rfl rfl rfl) ?_
      simp only [Act.put, List.setIfInBounds_toArray, List.set_cons_zero, List.set_cons_succ]
      go_upto_region 11 with fail
      refine wp_region_lit ?_
      refine wpList_run (v := .pointer (some ⟨y, 0, none⟩)) (wanted_none rfl) (exec_move rfl rfl) ?_
      simp only [Act.put, List.setIfInBounds_toArray, List.set_cons_zero, List.set_cons_succ]
      refine wpList_run (v := .bool false) (wanted_none rfl) (ptr_eqn (.inr rfl) rfl rfl rfl) ?_
      simp only [Act.put, List.setIfInBounds_toArray, List.set_cons_zero, List.set_cons_succ]
      go_upto_region 13 with fail
      refine wp_region_lit ?_
      refine wpList_run (v := .pointer (some ⟨x, 0, none⟩)) (wanted_none rfl) (exec_move rfl rfl) ?_
      simp only [Act.put, List.setIfInBounds_toArray, List.set_cons_zero, List.set_cons_succ]
      refine wpList_op (wanted_none rfl) fun K9 HK9 => ?_
      go_wp2_with fail
      refine (Clone_is HD6.out).mono ?_
      rintro e w7 ⟨z, bz, rfl, hd, hza, hzb, ht7⟩
      refine HK9.out _ _ ?_
      clear HK9
      try simp only [Act.put, List.setIfInBounds_toArray, List.set_cons_zero, List.set_cons_succ]
      refine wpList_run (v := .pointer (some ⟨z, 0, none⟩)) (wanted_none rfl) (gx_assign rfl rfl) ?_
      simp only [Act.put, List.setIfInBounds_toArray, List.set_cons_zero, List.set_cons_succ]
      have HR7 := Lib.hid (HR6.out.still ht7)
      go_upto_region 14 with fail
      refine wp_region_lit ?_
      refine wpList_run (v := .pointer (some ⟨y, 0, none⟩)) (wanted_none rfl) (exec_move rfl rfl) ?_
      simp only [Act.put, List.setIfInBounds_toArray, List.set_cons_zero, List.set_cons_succ]
      refine wpList_op (wanted_none rfl) fun K9 HK9 => ?_
      go_wp2_with fail
      refine (rClone_is HR7.out).mono ?_
      rintro e w8 ⟨u, rfl, hru, hlu, ht8⟩
      refine HK9.out _ _ ?_
      clear HK9
      try simp only [Act.put, List.setIfInBounds_toArray, List.set_cons_zero, List.set_cons_succ]
      refine wpList_run (v := .pointer (some ⟨u, 0, none⟩)) (wanted_none rfl) (gx_assign rfl rfl) ?_
      simp only [Act.put, List.setIfInBounds_toArray, List.set_cons_zero, List.set_cons_succ]
      have HF8 := Lib.hid (Fo.init HT6.out HLB.out HLY.out HD6.out HR6.out hzb ht7 hd hlu ht8 hru)
      clear hd hza hzb ht7 hru hlu ht8 HR7
      go_upto_region 15 with fail
      refine wp_region_lit ?_
      refine wpList_run (v := .pointer (some ⟨z, 0, none⟩)) (wanted_none rfl) (exec_move rfl rfl) ?_
      simp only [Act.put, List.setIfInBounds_toArray, List.set_cons_zero, List.set_cons_succ]
      refine wpList_run (v := .bool false) (wanted_none rfl) (ptr_eqn (.inl rfl) rfl rfl rfl) ?_
      simp only [Act.put, List.setIfInBounds_toArray, List.set_cons_zero, List.set_cons_succ]
      go_upto_region 17 with fail
      refine wp_region_lit ?_
      refine wpList_run (v := .int .i64 0) (wanted_none rfl) (gx_assign rfl rfl) ?_
      simp only [Act.put, List.setIfInBounds_toArray, List.set_cons_zero, List.set_cons_succ]
      go_wp2_with fail
      go_loopg [7, 10, 12, 13, 14] 100 (fun gk xv yv zv uv iv wr => ∃ (j x bx z bz y u : Nat) (hx hz : Card → Int), iv = .int .i64 (j : Int) ∧ j + gk = 100 ∧ xv = .pointer (some ⟨x, 0, none⟩) ∧ yv = .pointer (some ⟨y, 0, none⟩) ∧ zv = .pointer (some ⟨z, 0, none⟩) ∧ uv = .pointer (some ⟨u, 0, none⟩) ∧ Fo W wr x bx z bz y u l j hx hz)
      case atStart => exact ⟨0, x, bx, z, bz, y, u, _, _, rfl, rfl, rfl, rfl, rfl, rfl, HF8.out⟩
      clear HF8 HD6 HR6 HLY HLB HT6
      obtain ⟨j, x, bx, z, bz, y, u, hx, hz, rfl, hgj, rfl, rfl, rfl, rfl, hf⟩ := hrel
      have HGJ := Lib.hid hgj
      have HF := Lib.hid hf
      have HKR := Lib.hid (HK.out.still hf.tn)
      have yj : (j : Int) ≤ 100 := by omega
      clear hgj hf
      by_cases hlt : j < n
      · have HLT := Lib.hid hlt
        have y7 : (j : Int) < (n : Int) := by omega
        clear hlt
        by_cases h100 : j < 100
        · have H100 := Lib.hid h100
          have y8 : (j : Int) < 100 := by omega
          clear h100
          obtain ⟨o, ho⟩ : ∃ o, os[j]? = some o := ⟨os[j]'(by rw [HOL.out]; exact HLT.out), List.getElem?_eq_getElem (by rw [HOL.out]; exact HLT.out)⟩
          obtain ⟨bA, oA, rfl, hrg⟩ := HKR.out.rng ho
          have HC := Lib.hid hrg
          have HOK := Lib.hid (HKR.out.ok o (List.mem_of_getElem? ho))
          clear hrg ho
          go_upto_region 18 with fail
          refine wp_region_lit ?_
          refine wpList_run (v := .int .i64 (j : Int)) (wanted_none rfl) (exec_move rfl rfl) ?_
          simp only [Act.put, List.setIfInBounds_toArray, List.set_cons_zero, List.set_cons_succ]
          refine wpList_run (v := .slice (some ⟨bA, oA, none⟩) n c) (wanted_none rfl) (exec_move rfl rfl) ?_
          simp only [Act.put, List.setIfInBounds_toArray, List.set_cons_zero, List.set_cons_succ]
          refine wpList_run (v := .int .i64 (n : Int)) (wanted_none rfl) (gx_len rfl rfl Try.underlying23) ?_
          simp only [Act.put, List.setIfInBounds_toArray, List.set_cons_zero, List.set_cons_succ]
          refine wpList_run (v := .bool true) (wanted_none rfl) (ix_lss rfl rfl rfl (decide_eq_true y7)) ?_
          simp only [Act.put, List.setIfInBounds_toArray, List.set_cons_zero, List.set_cons_succ]
          refine wpList_run (v := .bool true) (wanted_none rfl) (exec_move rfl rfl) ?_
          simp only [Act.put, List.setIfInBounds_toArray, List.set_cons_zero, List.set_cons_succ]
          refine wpList_run (v := .int .i64 (j : Int)) rfl (exec_move rfl rfl) ?_
          simp only [Act.put, List.setIfInBounds_toArray, List.set_cons_zero, List.set_cons_succ]
          refine wpList_run (v := .bool true) rfl (ix_lss rfl rfl rfl (decide_eq_true y8)) ?_
          simp only [Act.put, List.setIfInBounds_toArray, List.set_cons_zero, List.set_cons_succ]
          refine wpList_run (v := .bool true) (wanted_none rfl) (ix_pickT rfl rfl rfl) ?_
          simp only [Act.put, List.setIfInBounds_toArray, List.set_cons_zero, List.set_cons_succ]
          go_upto_region 20 with fail
          refine wp_region_lit ?_
          refine wpList_run (v := .slice (some ⟨bA, oA, none⟩) n c) (wanted_none rfl) (exec_move rfl rfl) ?_
          simp only [Act.put, List.setIfInBounds_toArray, List.set_cons_zero, List.set_cons_succ]
          refine wpList_run (v := .int .i64 (j : Int)) (wanted_none rfl) (exec_move rfl rfl) ?_
          simp only [Act.put, List.setIfInBounds_toArray, List.set_cons_zero, List.set_cons_succ]
          refine wpList_run (v := .pointer (some ⟨bA, oA + j * 4, none⟩)) (wanted_none rfl) (gx_iaddr (i := j) (sz := 4) rfl rfl rfl Try.underlying23 size_sop HLT.out rfl) ?_
          simp only [Act.put, List.setIfInBounds_toArray, List.set_cons_zero, List.set_cons_succ]
          refine wpList_run (v := .agg o.cells.toArray) (wanted_none rfl) (gx_loads rfl rfl HC.out Try.underlying37 rfl (by rw [size_sop]; rfl)) ?_
          simp only [Act.put, List.setIfInBounds_toArray, List.set_cons_zero, List.set_cons_succ]
          refine wpList_run (v := .pointer (some ⟨wr.heap.size, 0, none⟩)) (w' := wr.alloc (.cells #[.int .i64 0, .int .i64 0, .int .i64 0, .string ByteArray.empty] 37)) (wanted_none rfl) (gx_alloc rfl (zero_sop _)) ?_
          simp only [Act.put, List.setIfInBounds_toArray, List.set_cons_zero, List.set_cons_succ]
          have hb_ := Blk.new wr 37 #[.int .i64 0, .int .i64 0, .int .i64 0, .string ByteArray.empty]
          have ht_ := (Turn.refl nowhere wr).alloc (.cells #[.int .i64 0, .int .i64 0, .int .i64 0, .string ByteArray.empty] 37)
          obtain ⟨v, hg_⟩ : ∃ g, g = wr.heap.size := ⟨_, rfl⟩
          rw [← hg_] at hb_ ⊢
          have HLv := Lib.hid (show wr.heap.size ≤ v from by omega)
          clear hg_
          generalize wr.alloc (.cells #[.int .i64 0, .int .i64 0, .int .i64 0, .string ByteArray.empty] 37) = w3v at *
          have HBv := Lib.hid hb_
          have HT3v := Lib.hid ht_
          clear hb_ ht_
          refine wpList_store_row (wanted_none rfl) 37 (.tmp 15) (.tmp 77) rfl (o.cells.toArray) HBv.out rfl rfl (rfl) (by rw [size_sop] <;> rfl) (sop_one o) ?_
          intro w4 hb_ ht_
          have HBv4 := Lib.hid hb_
          have HT4v := Lib.hid ht_
          clear hb_ ht_
          simp only [Act.put, List.setIfInBounds_toArray, List.set_cons_zero, List.set_cons_succ]
          have HT34 := Lib.hid (HT3v.out.newer HLv.out HT4v.out)
          clear HBv HT3v HT4v
          have HF4 := Lib.hid (HF.out.still HT34.out)
          go_upto_region 21 with fail
          refine wp_region_lit ?_
          refine wpList_run (v := .pointer (some ⟨v, 0, none⟩)) (wanted_none rfl) (exec_field (off := 0) (d := 0) rfl rfl (by kernel_rfl)) ?_
          simp only [Act.put, List.setIfInBounds_toArray, List.set_cons_zero, List.set_cons_succ]
          refine wpList_run (v := .int .i64 o.kind) (wanted_none rfl) (exec_load1 rfl rfl (by kernel_rfl) (HBv4.out.cell 0)) ?_
          simp only [Act.put, List.setIfInBounds_toArray, List.set_cons_zero, List.set_cons_succ]
          refine wpList_op (wanted_none rfl) fun K9 HK9 => ?_
          go_wp2_with fail
          refine (kind_walk o.kind w4 HOK.out.1).mono ?_
          rintro e w4 ⟨kk, rfl, hk8, rfl⟩
          refine HK9.out _ _ ?_
          clear HK9
          try simp only [Act.put, List.setIfInBounds_toArray, List.set_cons_zero, List.set_cons_succ]
          by_cases h6 : kk = 6
          · as_aux_lemma =>
              subst h6
              go_upto_region 26 with fail
              refine wp_region_lit ?_
              refine wpList_run (v := .bool true) (wanted_none rfl) (ix_eql rfl rfl rfl (by decide)) ?_
              simp only [Act.put, List.setIfInBounds_toArray, List.set_cons_zero, List.set_cons_succ]
              refine wpList_run (v := .bool true) (wanted_none rfl) (gx_assign rfl rfl) ?_
              simp only [Act.put, List.setIfInBounds_toArray, List.set_cons_zero, List.set_cons_succ]
              go_upto_region 27 with fail
              refine wp_region_lit ?_
              refine wpList_run (v := .pointer (some ⟨x, 0, none⟩)) (wanted_none rfl) (exec_move rfl rfl) ?_
              simp only [Act.put, List.setIfInBounds_toArray, List.set_cons_zero, List.set_cons_succ]
              refine wpList_op (wanted_none rfl) fun K9 HK9 => ?_
              go_wp2_with fail
              refine (Reset_walk HF4.out.dx).mono ?_
              rintro e w5 ⟨rfl, hd, ht5⟩
              refine HK9.out _ _ ?_
              clear HK9
              try simp only [Act.put, List.setIfInBounds_toArray, List.set_cons_zero, List.set_cons_succ]
              have HRY := Lib.hid (HF4.out.mid ht5)
              have HBv5 := Lib.hid (HBv4.out.turn ht5 fun e => siw_blk HBv4.out (by decide) (by have e : v = bx := e; rw [e]; exact HF4.out.dx.siw))
              go_upto_region 28 with fail
              refine wp_region_lit ?_
              refine wpList_run (v := .pointer (some ⟨y, 0, none⟩)) (wanted_none rfl) (exec_move rfl rfl) ?_
              simp only [Act.put, List.setIfInBounds_toArray, List.set_cons_zero, List.set_cons_succ]
              refine wpList_op (wanted_none rfl) fun K9 HK9 => ?_
              go_wp2_with fail
              refine (rReset_walk HRY.out).mono ?_
              rintro e w6 ⟨rfl, hr6, ht6⟩
              refine HK9.out _ _ ?_
              clear HK9
              try simp only [Act.put, List.setIfInBounds_toArray, List.set_cons_zero, List.set_cons_succ]
              have HBv6 := Lib.hid (HBv5.out.turn ht6 fun e => siw_blk HBv5.out (by decide) (by have e : v = y := e; rw [e]; exact HRY.out.siw))
              have HF6 := Lib.hid (HF4.out.step (hd.mono (Nat.zero_le (j + 1))) ht5 (hr6.mono (Nat.zero_le (j + 1))) ht6 (by omega))
              clear hd ht5 hr6 ht6
              have HBd := Lib.hid (show Blk w6.drew v 37 o.cells.toArray from HBv6.out)
              have HFd := Lib.hid ((HF6.out).still (Turn.refl nowhere w6).drew)
              obtain ⟨p1, hp1⟩ : ∃ z9, z9 = (fun _ => 0 : Card → Int) (o.mem, o.pan) := ⟨_, rfl⟩
              obtain ⟨p2, hp2⟩ : ∃ z9, z9 = hz (o.mem, o.pan) := ⟨_, rfl⟩
              have HP1 := Lib.hid hp1.symm
              have HP2 := Lib.hid hp2.symm
              clear hp1 hp2
              go_upto_region 36 with fail
              refine wp_region_alw (fun W9 => W9 = w6.drew) (by kernel_rfl) ?_
              have hS0 : (fun W9 => W9 = w6.drew) w6.drew := rfl
              generalize w6.drew = wd at *
              refine alw_take (i := 0) (v := .pointer (some ⟨x, 0, none⟩)) rfl (by kernel_rfl) (by kernel_rfl) (fun _ _ _ h => h) (.inl ⟨by rfl, fun W hW => exec_move rfl rfl⟩) hS0 ?_
              simp only [Act.put, List.setIfInBounds_toArray, List.set_cons_zero, List.set_cons_succ]
              refine alw_take (i := 1) (v := .pointer (some ⟨v, 1, none⟩)) rfl (by kernel_rfl) (by kernel_rfl) (fun _ _ _ h => h) (.inl ⟨by rfl, fun W hW => exec_field (off := 0) (d := 1) rfl rfl (by kernel_rfl)⟩) hS0 ?_
              simp only [Act.put, List.setIfInBounds_toArray, List.set_cons_zero, List.set_cons_succ]
              refine alw_take (i := 2) (v := .int .i64 o.mem) rfl (by kernel_rfl) (by kernel_rfl) (fun _ _ _ h => h) (.inl ⟨by rfl, fun W hW => by subst hW; exact exec_load1 rfl rfl (by kernel_rfl) (HBd.out.cell 1)⟩) hS0 ?_
              simp only [Act.put, List.setIfInBounds_toArray, List.set_cons_zero, List.set_cons_succ]
              refine alw_take (i := 3) (v := .pointer (some ⟨v, 3, none⟩)) rfl (by kernel_rfl) (by kernel_rfl) (fun _ _ _ h => h) (.inl ⟨by rfl, fun W hW => exec_field (off := 0) (d := 3) rfl rfl (by kernel_rfl)⟩) hS0 ?_
              simp only [Act.put, List.setIfInBounds_toArray, List.set_cons_zero, List.set_cons_succ]
              refine alw_take (i := 4) (v := strV o.pan) rfl (by kernel_rfl) (by kernel_rfl) (fun _ _ _ h => h) (.inl ⟨by rfl, fun W hW => by subst hW; exact exec_load1 rfl rfl (by kernel_rfl) (HBd.out.cell 3)⟩) hS0 ?_
              simp only [Act.put, List.setIfInBounds_toArray, List.set_cons_zero, List.set_cons_succ]
              refine alw_take (i := 6) (v := .pointer (some ⟨y, 0, none⟩)) rfl (by kernel_rfl) (by kernel_rfl) (fun _ _ _ h => h) (.inl ⟨by rfl, fun W hW => exec_move rfl rfl⟩) hS0 ?_
              simp only [Act.put, List.setIfInBounds_toArray, List.set_cons_zero, List.set_cons_succ]
              refine alw_take (i := 7) (v := .pointer (some ⟨v, 1, none⟩)) rfl (by kernel_rfl) (by kernel_rfl) (fun _ _ _ h => h) (.inl ⟨by rfl, fun W hW => exec_field (off := 0) (d := 1) rfl rfl (by kernel_rfl)⟩) hS0 ?_
              simp only [Act.put, List.setIfInBounds_toArray, List.set_cons_zero, List.set_cons_succ]
              refine alw_take (i := 8) (v := .int .i64 o.mem) rfl (by kernel_rfl) (by kernel_rfl) (fun _ _ _ h => h) (.inl ⟨by rfl, fun W hW => by subst hW; exact exec_load1 rfl rfl (by kernel_rfl) (HBd.out.cell 1)⟩) hS0 ?_
              simp only [Act.put, List.setIfInBounds_toArray, List.set_cons_zero, List.set_cons_succ]
              refine alw_take (i := 9) (v := .pointer (some ⟨v, 3, none⟩)) rfl (by kernel_rfl) (by kernel_rfl) (fun _ _ _ h => h) (.inl ⟨by rfl, fun W hW => exec_field (off := 0) (d := 3) rfl rfl (by kernel_rfl)⟩) hS0 ?_
              simp only [Act.put, List.setIfInBounds_toArray, List.set_cons_zero, List.set_cons_succ]
              refine alw_take (i := 10) (v := strV o.pan) rfl (by kernel_rfl) (by kernel_rfl) (fun _ _ _ h => h) (.inl ⟨by rfl, fun W hW => by subst hW; exact exec_load1 rfl rfl (by kernel_rfl) (HBd.out.cell 3)⟩) hS0 ?_
              simp only [Act.put, List.setIfInBounds_toArray, List.set_cons_zero, List.set_cons_succ]
              refine alw_step (i := 5) (by kernel_rfl) rfl rfl ?_
              intro K1 HK1
              go_wp2_with fail
              refine (Had_at HFd.out.dx HOK.out.2.2 HP1.out).mono ?_
              rintro e wd ⟨rfl, rfl⟩

              refine HK1.out _ _ ⟨rfl, ?_⟩
              clear HK1
              try simp only [Act.put, List.setIfInBounds_toArray, List.set_cons_zero, List.set_cons_succ]
              refine alw_step (i := 11) (by kernel_rfl) rfl rfl ?_
              intro K1 HK1
              go_wp2_with fail
              refine (rHad_at HFd.out.ry (by have := HGJ.out; omega) HP1.out).mono ?_
              rintro e wd ⟨rfl, rfl⟩

              refine HK1.out _ _ ⟨rfl, ?_⟩
              clear HK1
              try simp only [Act.put, List.setIfInBounds_toArray, List.set_cons_zero, List.set_cons_succ]
              have hS0 : (fun W9 => W9 = wd) wd := rfl
              refine alw_take (i := 12) (v := .bool false) rfl (by kernel_rfl) (by kernel_rfl) (fun _ _ _ h => h) (.inl ⟨by rfl, fun W hW => ix_neq rfl rfl rfl (decide_eq_false (fun e => e rfl))⟩) hS0 ?_
              simp only [Act.put, List.setIfInBounds_toArray, List.set_cons_zero, List.set_cons_succ]
              refine alw_take (i := 13) (v := .bool false) rfl (by kernel_rfl) (by kernel_rfl) (fun _ _ _ h => h) (.inl ⟨by rfl, fun W hW => exec_move rfl rfl⟩) hS0 ?_
              simp only [Act.put, List.setIfInBounds_toArray, List.set_cons_zero, List.set_cons_succ]
              refine alw_take (i := 14) (v := .pointer (some ⟨z, 0, none⟩)) rfl (by kernel_rfl) (by kernel_rfl) (fun _ _ _ h => h) (.inl ⟨by rfl, fun W hW => exec_move rfl rfl⟩) hS0 ?_
              simp only [Act.put, List.setIfInBounds_toArray, List.set_cons_zero, List.set_cons_succ]
              refine alw_take (i := 15) (v := .pointer (some ⟨v, 1, none⟩)) rfl (by kernel_rfl) (by kernel_rfl) (fun _ _ _ h => h) (.inl ⟨by rfl, fun W hW => exec_field (off := 0) (d := 1) rfl rfl (by kernel_rfl)⟩) hS0 ?_
              simp only [Act.put, List.setIfInBounds_toArray, List.set_cons_zero, List.set_cons_succ]
              refine alw_take (i := 16) (v := .int .i64 o.mem) rfl (by kernel_rfl) (by kernel_rfl) (fun _ _ _ h => h) (.inl ⟨by rfl, fun W hW => by subst hW; exact exec_load1 rfl rfl (by kernel_rfl) (HBd.out.cell 1)⟩) hS0 ?_
              simp only [Act.put, List.setIfInBounds_toArray, List.set_cons_zero, List.set_cons_succ]
              refine alw_take (i := 17) (v := .pointer (some ⟨v, 3, none⟩)) rfl (by kernel_rfl) (by kernel_rfl) (fun _ _ _ h => h) (.inl ⟨by rfl, fun W hW => exec_field (off := 0) (d := 3) rfl rfl (by kernel_rfl)⟩) hS0 ?_
              simp only [Act.put, List.setIfInBounds_toArray, List.set_cons_zero, List.set_cons_succ]
              refine alw_take (i := 18) (v := strV o.pan) rfl (by kernel_rfl) (by kernel_rfl) (fun _ _ _ h => h) (.inl ⟨by rfl, fun W hW => by subst hW; exact exec_load1 rfl rfl (by kernel_rfl) (HBd.out.cell 3)⟩) hS0 ?_
              simp only [Act.put, List.setIfInBounds_toArray, List.set_cons_zero, List.set_cons_succ]
              refine alw_take (i := 20) (v := .pointer (some ⟨u, 0, none⟩)) rfl (by kernel_rfl) (by kernel_rfl) (fun _ _ _ h => h) (.inl ⟨by rfl, fun W hW => exec_move rfl rfl⟩) hS0 ?_
              simp only [Act.put, List.setIfInBounds_toArray, List.set_cons_zero, List.set_cons_succ]
              refine alw_take (i := 21) (v := .pointer (some ⟨v, 1, none⟩)) rfl (by kernel_rfl) (by kernel_rfl) (fun _ _ _ h => h) (.inl ⟨by rfl, fun W hW => exec_field (off := 0) (d := 1) rfl rfl (by kernel_rfl)⟩) hS0 ?_
              simp only [Act.put, List.setIfInBounds_toArray, List.set_cons_zero, List.set_cons_succ]
              refine alw_take (i := 22) (v := .int .i64 o.mem) rfl (by kernel_rfl) (by kernel_rfl) (fun _ _ _ h => h) (.inl ⟨by rfl, fun W hW => by subst hW; exact exec_load1 rfl rfl (by kernel_rfl) (HBd.out.cell 1)⟩) hS0 ?_
              simp only [Act.put, List.setIfInBounds_toArray, List.set_cons_zero, List.set_cons_succ]
              refine alw_take (i := 23) (v := .pointer (some ⟨v, 3, none⟩)) rfl (by kernel_rfl) (by kernel_rfl) (fun _ _ _ h => h) (.inl ⟨by rfl, fun W hW => exec_field (off := 0) (d := 3) rfl rfl (by kernel_rfl)⟩) hS0 ?_
              simp only [Act.put, List.setIfInBounds_toArray, List.set_cons_zero, List.set_cons_succ]
              refine alw_take (i := 24) (v := strV o.pan) rfl (by kernel_rfl) (by kernel_rfl) (fun _ _ _ h => h) (.inl ⟨by rfl, fun W hW => by subst hW; exact exec_load1 rfl rfl (by kernel_rfl) (HBd.out.cell 3)⟩) hS0 ?_
              simp only [Act.put, List.setIfInBounds_toArray, List.set_cons_zero, List.set_cons_succ]
              refine alw_step (i := 19) (by kernel_rfl) rfl rfl ?_
              intro K1 HK1
              go_wp2_with fail
              refine (Had_at HFd.out.dz HOK.out.2.2 HP2.out).mono ?_
              rintro e wd ⟨rfl, rfl⟩

              refine HK1.out _ _ ⟨rfl, ?_⟩
              clear HK1
              try simp only [Act.put, List.setIfInBounds_toArray, List.set_cons_zero, List.set_cons_succ]
              refine alw_step (i := 25) (by kernel_rfl) rfl rfl ?_
              intro K1 HK1
              go_wp2_with fail
              refine (rHad_at HFd.out.ru (by have := HGJ.out; omega) HP2.out).mono ?_
              rintro e wd ⟨rfl, rfl⟩

              refine HK1.out _ _ ⟨rfl, ?_⟩
              clear HK1
              try simp only [Act.put, List.setIfInBounds_toArray, List.set_cons_zero, List.set_cons_succ]
              have hS0 : (fun W9 => W9 = wd) wd := rfl
              refine alw_take (i := 26) (v := .bool false) rfl (by kernel_rfl) (by kernel_rfl) (fun _ _ _ h => h) (.inl ⟨by rfl, fun W hW => ix_neq rfl rfl rfl (decide_eq_false (fun e => e rfl))⟩) hS0 ?_
              simp only [Act.put, List.setIfInBounds_toArray, List.set_cons_zero, List.set_cons_succ]
              refine alw_take (i := 27) (v := .bool false) rfl (by kernel_rfl) (by kernel_rfl) (fun _ _ _ h => h) (.inl ⟨by rfl, fun W hW => ix_pickF rfl rfl rfl⟩) hS0 ?_
              simp only [Act.put, List.setIfInBounds_toArray, List.set_cons_zero, List.set_cons_succ]
              refine alw_done rfl ?_
              refine NoPanic.normal ?_
              clear hS0
              try simp only [Act.put, List.setIfInBounds_toArray, List.set_cons_zero, List.set_cons_succ]
              go_upto_region 19 with fail
              refine wp_region_lit ?_
              refine wpList_run (v := .int .i64 (j : Int)) (wanted_none rfl) (exec_move rfl rfl) ?_
              simp only [Act.put, List.setIfInBounds_toArray, List.set_cons_zero, List.set_cons_succ]
              refine wpList_run (v := .int .i64 ((j + 1 : Nat) : Int)) (wanted_none rfl) (ix_add rfl rfl rfl (by omega) (by omega)) ?_
              simp only [Act.put, List.setIfInBounds_toArray, List.set_cons_zero, List.set_cons_succ]
              refine wpList_run (v := .int .i64 ((j + 1 : Nat) : Int)) (wanted_none rfl) (gx_assign rfl rfl) ?_
              simp only [Act.put, List.setIfInBounds_toArray, List.set_cons_zero, List.set_cons_succ]
              go_wp2_with fail
              go_roundg (gk - 1)
              case measure => have := HGJ.out; have := H100.out; omega
              case rel => exact ⟨j + 1, _, _, _, _, _, _, _, _, rfl, by have := HGJ.out; have := H100.out; omega, rfl, rfl, rfl, rfl, HFd.out⟩
          · have H6 := Lib.hid (show ¬ (kk : Int) = 6 from by omega)
            by_cases h7 : kk = 7
            · as_aux_lemma =>
                subst h7
                go_upto_region 26 with fail
                refine wp_region_lit ?_
                refine wpList_run (v := .bool false) (wanted_none rfl) (ix_eql rfl rfl rfl (decide_eq_false H6.out)) ?_
                simp only [Act.put, List.setIfInBounds_toArray, List.set_cons_zero, List.set_cons_succ]
                refine wpList_run (v := .bool false) (wanted_none rfl) (gx_assign rfl rfl) ?_
                simp only [Act.put, List.setIfInBounds_toArray, List.set_cons_zero, List.set_cons_succ]
                go_upto_region 29 with fail
                refine wp_region_lit ?_
                refine wpList_run (v := .bool true) (wanted_none rfl) (ix_eql rfl rfl rfl (by decide)) ?_
                simp only [Act.put, List.setIfInBounds_toArray, List.set_cons_zero, List.set_cons_succ]
                refine wpList_run (v := .bool true) (wanted_none rfl) (gx_assign rfl rfl) ?_
                simp only [Act.put, List.setIfInBounds_toArray, List.set_cons_zero, List.set_cons_succ]
                go_upto_region 30 with fail
                refine wp_region_lit ?_
                refine wpList_run (v := .pointer (some ⟨x, 0, none⟩)) (wanted_none rfl) (exec_move rfl rfl) ?_
                simp only [Act.put, List.setIfInBounds_toArray, List.set_cons_zero, List.set_cons_succ]
                refine wpList_run (v := .pointer (some ⟨x, 0, none⟩)) (wanted_none rfl) (gx_assign rfl rfl) ?_
                simp only [Act.put, List.setIfInBounds_toArray, List.set_cons_zero, List.set_cons_succ]
                go_upto_region 31 with fail
                refine wp_region_lit ?_
                refine wpList_run (v := .pointer (some ⟨x, 0, none⟩)) (wanted_none rfl) (exec_move rfl rfl) ?_
                simp only [Act.put, List.setIfInBounds_toArray, List.set_cons_zero, List.set_cons_succ]
                refine wpList_op (wanted_none rfl) fun K9 HK9 => ?_
                go_wp2_with fail
                refine (Clone_walk HF4.out.dx).mono ?_
                rintro e w5 ⟨p, rfl, hmd⟩
                refine HK9.out _ _ ?_
                clear HK9
                try simp only [Act.put, List.setIfInBounds_toArray, List.set_cons_zero, List.set_cons_succ]
                have HMD := Lib.hid hmd
                have HT5 := Lib.hid hmd.turn_
                have HRY := Lib.hid (HF4.out.ry.still hmd.turn_)
                clear hmd
                refine wpList_run (v := p) (wanted_none rfl) (gx_assign rfl rfl) ?_
                simp only [Act.put, List.setIfInBounds_toArray, List.set_cons_zero, List.set_cons_succ]
                go_upto_region 32 with fail
                refine wp_region_lit ?_
                refine wpList_run (v := .pointer (some ⟨y, 0, none⟩)) (wanted_none rfl) (exec_move rfl rfl) ?_
                simp only [Act.put, List.setIfInBounds_toArray, List.set_cons_zero, List.set_cons_succ]
                refine wpList_run (v := .pointer (some ⟨y, 0, none⟩)) (wanted_none rfl) (gx_assign rfl rfl) ?_
                simp only [Act.put, List.setIfInBounds_toArray, List.set_cons_zero, List.set_cons_succ]
                go_upto_region 33 with fail
                refine wp_region_lit ?_
                refine wpList_run (v := .pointer (some ⟨y, 0, none⟩)) (wanted_none rfl) (exec_move rfl rfl) ?_
                simp only [Act.put, List.setIfInBounds_toArray, List.set_cons_zero, List.set_cons_succ]
                refine wpList_op (wanted_none rfl) fun K9 HK9 => ?_
                go_wp2_with fail
                refine (rClone_walk HRY.out).mono ?_
                rintro e w6 ⟨p2, rfl, hmr⟩
                refine HK9.out _ _ ?_
                clear HK9
                try simp only [Act.put, List.setIfInBounds_toArray, List.set_cons_zero, List.set_cons_succ]
                obtain ⟨a9, b9, c9, rfl, rfl, hf9⟩ := HF4.out.clone HMD.out hmr
                have HF6 := Lib.hid (show Fo W w6 a9 b9 x bx c9 y l (j + 1) hx hx from ⟨hf9.dx.mono (by omega), hf9.dz.mono (by omega), hf9.ry.mono (by omega), hf9.ru.mono (by omega), hf9.ne, hf9.tn, hf9.fr⟩)
                have HBv6 := Lib.hid ((HBv4.out.turn HT5.out fun e => e).turn hmr.turn_ fun e => e)
                clear hf9 hmr HMD
                refine wpList_run (v := .pointer (some ⟨c9, 0, none⟩)) (wanted_none rfl) (gx_assign rfl rfl) ?_
                simp only [Act.put, List.setIfInBounds_toArray, List.set_cons_zero, List.set_cons_succ]
                go_upto_region 34 with fail
                refine wp_region_lit ?_
                refine wpList_run (v := .pointer (some ⟨a9, 0, none⟩)) (wanted_none rfl) (exec_move rfl rfl) ?_
                simp only [Act.put, List.setIfInBounds_toArray, List.set_cons_zero, List.set_cons_succ]
                refine wpList_run (v := .bool false) (wanted_none rfl) (ptr_eqn (.inl rfl) rfl rfl rfl) ?_
                simp only [Act.put, List.setIfInBounds_toArray, List.set_cons_zero, List.set_cons_succ]
                have HBd := Lib.hid (show Blk w6.drew v 37 o.cells.toArray from HBv6.out)
                have HFd := Lib.hid ((HF6.out).still (Turn.refl nowhere w6).drew)
                obtain ⟨p1, hp1⟩ : ∃ z9, z9 = hx (o.mem, o.pan) := ⟨_, rfl⟩
                obtain ⟨p2, hp2⟩ : ∃ z9, z9 = hx (o.mem, o.pan) := ⟨_, rfl⟩
                have HP1 := Lib.hid hp1.symm
                have HP2 := Lib.hid hp2.symm
                clear hp1 hp2
                go_upto_region 36 with fail
                refine wp_region_alw (fun W9 => W9 = w6.drew) (by kernel_rfl) ?_
                have hS0 : (fun W9 => W9 = w6.drew) w6.drew := rfl
                generalize w6.drew = wd at *
                refine alw_take (i := 0) (v := .pointer (some ⟨a9, 0, none⟩)) rfl (by kernel_rfl) (by kernel_rfl) (fun _ _ _ h => h) (.inl ⟨by rfl, fun W hW => exec_move rfl rfl⟩) hS0 ?_
                simp only [Act.put, List.setIfInBounds_toArray, List.set_cons_zero, List.set_cons_succ]
                refine alw_take (i := 1) (v := .pointer (some ⟨v, 1, none⟩)) rfl (by kernel_rfl) (by kernel_rfl) (fun _ _ _ h => h) (.inl ⟨by rfl, fun W hW => exec_field (off := 0) (d := 1) rfl rfl (by kernel_rfl)⟩) hS0 ?_
                simp only [Act.put, List.setIfInBounds_toArray, List.set_cons_zero, List.set_cons_succ]
                refine alw_take (i := 2) (v := .int .i64 o.mem) rfl (by kernel_rfl) (by kernel_rfl) (fun _ _ _ h => h) (.inl ⟨by rfl, fun W hW => by subst hW; exact exec_load1 rfl rfl (by kernel_rfl) (HBd.out.cell 1)⟩) hS0 ?_
                simp only [Act.put, List.setIfInBounds_toArray, List.set_cons_zero, List.set_cons_succ]
                refine alw_take (i := 3) (v := .pointer (some ⟨v, 3, none⟩)) rfl (by kernel_rfl) (by kernel_rfl) (fun _ _ _ h => h) (.inl ⟨by rfl, fun W hW => exec_field (off := 0) (d := 3) rfl rfl (by kernel_rfl)⟩) hS0 ?_
                simp only [Act.put, List.setIfInBounds_toArray, List.set_cons_zero, List.set_cons_succ]
                refine alw_take (i := 4) (v := strV o.pan) rfl (by kernel_rfl) (by kernel_rfl) (fun _ _ _ h => h) (.inl ⟨by rfl, fun W hW => by subst hW; exact exec_load1 rfl rfl (by kernel_rfl) (HBd.out.cell 3)⟩) hS0 ?_
                simp only [Act.put, List.setIfInBounds_toArray, List.set_cons_zero, List.set_cons_succ]
                refine alw_take (i := 6) (v := .pointer (some ⟨c9, 0, none⟩)) rfl (by kernel_rfl) (by kernel_rfl) (fun _ _ _ h => h) (.inl ⟨by rfl, fun W hW => exec_move rfl rfl⟩) hS0 ?_
                simp only [Act.put, List.setIfInBounds_toArray, List.set_cons_zero, List.set_cons_succ]
                refine alw_take (i := 7) (v := .pointer (some ⟨v, 1, none⟩)) rfl (by kernel_rfl) (by kernel_rfl) (fun _ _ _ h => h) (.inl ⟨by rfl, fun W hW => exec_field (off := 0) (d := 1) rfl rfl (by kernel_rfl)⟩) hS0 ?_
                simp only [Act.put, List.setIfInBounds_toArray, List.set_cons_zero, List.set_cons_succ]
                refine alw_take (i := 8) (v := .int .i64 o.mem) rfl (by kernel_rfl) (by kernel_rfl) (fun _ _ _ h => h) (.inl ⟨by rfl, fun W hW => by subst hW; exact exec_load1 rfl rfl (by kernel_rfl) (HBd.out.cell 1)⟩) hS0 ?_
                simp only [Act.put, List.setIfInBounds_toArray, List.set_cons_zero, List.set_cons_succ]
                refine alw_take (i := 9) (v := .pointer (some ⟨v, 3, none⟩)) rfl (by kernel_rfl) (by kernel_rfl) (fun _ _ _ h => h) (.inl ⟨by rfl, fun W hW => exec_field (off := 0) (d := 3) rfl rfl (by kernel_rfl)⟩) hS0 ?_
                simp only [Act.put, List.setIfInBounds_toArray, List.set_cons_zero, List.set_cons_succ]
                refine alw_take (i := 10) (v := strV o.pan) rfl (by kernel_rfl) (by kernel_rfl) (fun _ _ _ h => h) (.inl ⟨by rfl, fun W hW => by subst hW; exact exec_load1 rfl rfl (by kernel_rfl) (HBd.out.cell 3)⟩) hS0 ?_
                simp only [Act.put, List.setIfInBounds_toArray, List.set_cons_zero, List.set_cons_succ]
                refine alw_step (i := 5) (by kernel_rfl) rfl rfl ?_
                intro K1 HK1
                go_wp2_with fail
                refine (Had_at HFd.out.dx HOK.out.2.2 HP1.out).mono ?_
                rintro e wd ⟨rfl, rfl⟩

                refine HK1.out _ _ ⟨rfl, ?_⟩
                clear HK1
                try simp only [Act.put, List.setIfInBounds_toArray, List.set_cons_zero, List.set_cons_succ]
                refine alw_step (i := 11) (by kernel_rfl) rfl rfl ?_
                intro K1 HK1
                go_wp2_with fail
                refine (rHad_at HFd.out.ry (by have := HGJ.out; omega) HP1.out).mono ?_
                rintro e wd ⟨rfl, rfl⟩

                refine HK1.out _ _ ⟨rfl, ?_⟩
                clear HK1
                try simp only [Act.put, List.setIfInBounds_toArray, List.set_cons_zero, List.set_cons_succ]
                have hS0 : (fun W9 => W9 = wd) wd := rfl
                refine alw_take (i := 12) (v := .bool false) rfl (by kernel_rfl) (by kernel_rfl) (fun _ _ _ h => h) (.inl ⟨by rfl, fun W hW => ix_neq rfl rfl rfl (decide_eq_false (fun e => e rfl))⟩) hS0 ?_
                simp only [Act.put, List.setIfInBounds_toArray, List.set_cons_zero, List.set_cons_succ]
                refine alw_take (i := 13) (v := .bool false) rfl (by kernel_rfl) (by kernel_rfl) (fun _ _ _ h => h) (.inl ⟨by rfl, fun W hW => exec_move rfl rfl⟩) hS0 ?_
                simp only [Act.put, List.setIfInBounds_toArray, List.set_cons_zero, List.set_cons_succ]
                refine alw_take (i := 14) (v := .pointer (some ⟨x, 0, none⟩)) rfl (by kernel_rfl) (by kernel_rfl) (fun _ _ _ h => h) (.inl ⟨by rfl, fun W hW => exec_move rfl rfl⟩) hS0 ?_
                simp only [Act.put, List.setIfInBounds_toArray, List.set_cons_zero, List.set_cons_succ]
                refine alw_take (i := 15) (v := .pointer (some ⟨v, 1, none⟩)) rfl (by kernel_rfl) (by kernel_rfl) (fun _ _ _ h => h) (.inl ⟨by rfl, fun W hW => exec_field (off := 0) (d := 1) rfl rfl (by kernel_rfl)⟩) hS0 ?_
                simp only [Act.put, List.setIfInBounds_toArray, List.set_cons_zero, List.set_cons_succ]
                refine alw_take (i := 16) (v := .int .i64 o.mem) rfl (by kernel_rfl) (by kernel_rfl) (fun _ _ _ h => h) (.inl ⟨by rfl, fun W hW => by subst hW; exact exec_load1 rfl rfl (by kernel_rfl) (HBd.out.cell 1)⟩) hS0 ?_
                simp only [Act.put, List.setIfInBounds_toArray, List.set_cons_zero, List.set_cons_succ]
                refine alw_take (i := 17) (v := .pointer (some ⟨v, 3, none⟩)) rfl (by kernel_rfl) (by kernel_rfl) (fun _ _ _ h => h) (.inl ⟨by rfl, fun W hW => exec_field (off := 0) (d := 3) rfl rfl (by kernel_rfl)⟩) hS0 ?_
                simp only [Act.put, List.setIfInBounds_toArray, List.set_cons_zero, List.set_cons_succ]
                refine alw_take (i := 18) (v := strV o.pan) rfl (by kernel_rfl) (by kernel_rfl) (fun _ _ _ h => h) (.inl ⟨by rfl, fun W hW => by subst hW; exact exec_load1 rfl rfl (by kernel_rfl) (HBd.out.cell 3)⟩) hS0 ?_
                simp only [Act.put, List.setIfInBounds_toArray, List.set_cons_zero, List.set_cons_succ]
                refine alw_take (i := 20) (v := .pointer (some ⟨y, 0, none⟩)) rfl (by kernel_rfl) (by kernel_rfl) (fun _ _ _ h => h) (.inl ⟨by rfl, fun W hW => exec_move rfl rfl⟩) hS0 ?_
                simp only [Act.put, List.setIfInBounds_toArray, List.set_cons_zero, List.set_cons_succ]
                refine alw_take (i := 21) (v := .pointer (some ⟨v, 1, none⟩)) rfl (by kernel_rfl) (by kernel_rfl) (fun _ _ _ h => h) (.inl ⟨by rfl, fun W hW => exec_field (off := 0) (d := 1) rfl rfl (by kernel_rfl)⟩) hS0 ?_
                simp only [Act.put, List.setIfInBounds_toArray, List.set_cons_zero, List.set_cons_succ]
                refine alw_take (i := 22) (v := .int .i64 o.mem) rfl (by kernel_rfl) (by kernel_rfl) (fun _ _ _ h => h) (.inl ⟨by rfl, fun W hW => by subst hW; exact exec_load1 rfl rfl (by kernel_rfl) (HBd.out.cell 1)⟩) hS0 ?_
                simp only [Act.put, List.setIfInBounds_toArray, List.set_cons_zero, List.set_cons_succ]
                refine alw_take (i := 23) (v := .pointer (some ⟨v, 3, none⟩)) rfl (by kernel_rfl) (by kernel_rfl) (fun _ _ _ h => h) (.inl ⟨by rfl, fun W hW => exec_field (off := 0) (d := 3) rfl rfl (by kernel_rfl)⟩) hS0 ?_
                simp only [Act.put, List.setIfInBounds_toArray, List.set_cons_zero, List.set_cons_succ]
                refine alw_take (i := 24) (v := strV o.pan) rfl (by kernel_rfl) (by kernel_rfl) (fun _ _ _ h => h) (.inl ⟨by rfl, fun W hW => by subst hW; exact exec_load1 rfl rfl (by kernel_rfl) (HBd.out.cell 3)⟩) hS0 ?_
                simp only [Act.put, List.setIfInBounds_toArray, List.set_cons_zero, List.set_cons_succ]
                refine alw_step (i := 19) (by kernel_rfl) rfl rfl ?_
                intro K1 HK1
                go_wp2_with fail
                refine (Had_at HFd.out.dz HOK.out.2.2 HP2.out).mono ?_
                rintro e wd ⟨rfl, rfl⟩

                refine HK1.out _ _ ⟨rfl, ?_⟩
                clear HK1
                try simp only [Act.put, List.setIfInBounds_toArray, List.set_cons_zero, List.set_cons_succ]
                refine alw_step (i := 25) (by kernel_rfl) rfl rfl ?_
                intro K1 HK1
                go_wp2_with fail
                refine (rHad_at HFd.out.ru (by have := HGJ.out; omega) HP2.out).mono ?_
                rintro e wd ⟨rfl, rfl⟩

                refine HK1.out _ _ ⟨rfl, ?_⟩
                clear HK1
                try simp only [Act.put, List.setIfInBounds_toArray, List.set_cons_zero, List.set_cons_succ]
                have hS0 : (fun W9 => W9 = wd) wd := rfl
                refine alw_take (i := 26) (v := .bool false) rfl (by kernel_rfl) (by kernel_rfl) (fun _ _ _ h => h) (.inl ⟨by rfl, fun W hW => ix_neq rfl rfl rfl (decide_eq_false (fun e => e rfl))⟩) hS0 ?_
                simp only [Act.put, List.setIfInBounds_toArray, List.set_cons_zero, List.set_cons_succ]
                refine alw_take (i := 27) (v := .bool false) rfl (by kernel_rfl) (by kernel_rfl) (fun _ _ _ h => h) (.inl ⟨by rfl, fun W hW => ix_pickF rfl rfl rfl⟩) hS0 ?_
                simp only [Act.put, List.setIfInBounds_toArray, List.set_cons_zero, List.set_cons_succ]
                refine alw_done rfl ?_
                refine NoPanic.normal ?_
                clear hS0
                try simp only [Act.put, List.setIfInBounds_toArray, List.set_cons_zero, List.set_cons_succ]
                go_upto_region 19 with fail
                refine wp_region_lit ?_
                refine wpList_run (v := .int .i64 (j : Int)) (wanted_none rfl) (exec_move rfl rfl) ?_
                simp only [Act.put, List.setIfInBounds_toArray, List.set_cons_zero, List.set_cons_succ]
                refine wpList_run (v := .int .i64 ((j + 1 : Nat) : Int)) (wanted_none rfl) (ix_add rfl rfl rfl (by omega) (by omega)) ?_
                simp only [Act.put, List.setIfInBounds_toArray, List.set_cons_zero, List.set_cons_succ]
                refine wpList_run (v := .int .i64 ((j + 1 : Nat) : Int)) (wanted_none rfl) (gx_assign rfl rfl) ?_
                simp only [Act.put, List.setIfInBounds_toArray, List.set_cons_zero, List.set_cons_succ]
                go_wp2_with fail
                go_roundg (gk - 1)
                case measure => have := HGJ.out; have := H100.out; omega
                case rel => exact ⟨j + 1, _, _, _, _, _, _, _, _, rfl, by have := HGJ.out; have := H100.out; omega, rfl, rfl, rfl, rfl, HFd.out⟩
            · as_aux_lemma =>
                have H7 := Lib.hid (show ¬ (kk : Int) = 7 from by omega)
                clear h6 h7 hk8
                generalize (kk : Int) = kz at *
                go_upto_region 26 with fail
                refine wp_region_lit ?_
                refine wpList_run (v := .bool false) (wanted_none rfl) (ix_eql rfl rfl rfl (decide_eq_false H6.out)) ?_
                simp only [Act.put, List.setIfInBounds_toArray, List.set_cons_zero, List.set_cons_succ]
                refine wpList_run (v := .bool false) (wanted_none rfl) (gx_assign rfl rfl) ?_
                simp only [Act.put, List.setIfInBounds_toArray, List.set_cons_zero, List.set_cons_succ]
                go_upto_region 29 with fail
                refine wp_region_lit ?_
                refine wpList_run (v := .bool false) (wanted_none rfl) (ix_eql rfl rfl rfl (decide_eq_false H7.out)) ?_
                simp only [Act.put, List.setIfInBounds_toArray, List.set_cons_zero, List.set_cons_succ]
                refine wpList_run (v := .bool false) (wanted_none rfl) (gx_assign rfl rfl) ?_
                simp only [Act.put, List.setIfInBounds_toArray, List.set_cons_zero, List.set_cons_succ]
                obtain ⟨E, hE⟩ : ∃ z9, z9 = Si.askE l hx (o.mem, o.pan) o.amt := ⟨_, rfl⟩
                obtain ⟨h9, hh9⟩ : ∃ z9, z9 = Si.askH l hx (o.mem, o.pan) o.amt := ⟨_, rfl⟩
                have HE := Lib.hid hE.symm
                have HH := Lib.hid hh9.symm
                clear hE hh9
                go_upto_region 22 with fail
                refine wp_region_lit ?_
                refine wpList_run (v := .pointer (some ⟨x, 0, none⟩)) (wanted_none rfl) (exec_move rfl rfl) ?_
                simp only [Act.put, List.setIfInBounds_toArray, List.set_cons_zero, List.set_cons_succ]
                refine wpList_run (v := .pointer (some ⟨v, 1, none⟩)) (wanted_none rfl) (exec_field (off := 0) (d := 1) rfl rfl (by kernel_rfl)) ?_
                simp only [Act.put, List.setIfInBounds_toArray, List.set_cons_zero, List.set_cons_succ]
                refine wpList_run (v := .int .i64 o.mem) (wanted_none rfl) (exec_load1 rfl rfl (by kernel_rfl) (HBv4.out.cell 1)) ?_
                simp only [Act.put, List.setIfInBounds_toArray, List.set_cons_zero, List.set_cons_succ]
                refine wpList_run (v := .pointer (some ⟨v, 3, none⟩)) (wanted_none rfl) (exec_field (off := 0) (d := 3) rfl rfl (by kernel_rfl)) ?_
                simp only [Act.put, List.setIfInBounds_toArray, List.set_cons_zero, List.set_cons_succ]
                refine wpList_run (v := strV o.pan) (wanted_none rfl) (exec_load1 rfl rfl (by kernel_rfl) (HBv4.out.cell 3)) ?_
                simp only [Act.put, List.setIfInBounds_toArray, List.set_cons_zero, List.set_cons_succ]
                refine wpList_run (v := .pointer (some ⟨v, 2, none⟩)) (wanted_none rfl) (exec_field (off := 0) (d := 2) rfl rfl (by kernel_rfl)) ?_
                simp only [Act.put, List.setIfInBounds_toArray, List.set_cons_zero, List.set_cons_succ]
                refine wpList_run (v := .int .i64 o.amt) (wanted_none rfl) (exec_load1 rfl rfl (by kernel_rfl) (HBv4.out.cell 2)) ?_
                simp only [Act.put, List.setIfInBounds_toArray, List.set_cons_zero, List.set_cons_succ]
                refine wpList_op (wanted_none rfl) fun K9 HK9 => ?_
                go_wp2_with fail
                refine (Ask_at HF4.out.dx (by have := HGJ.out; omega) HOK.out.2.2 HE.out HH.out).mono ?_
                rintro e w5 ⟨rfl, hd, ht5⟩
                refine HK9.out _ _ ?_
                clear HK9
                try simp only [Act.put, List.setIfInBounds_toArray, List.set_cons_zero, List.set_cons_succ]
                have HRY := Lib.hid (HF4.out.mid ht5)
                have HBv5 := Lib.hid (HBv4.out.turn ht5 fun e => siw_blk HBv4.out (by decide) (by have e : v = bx := e; rw [e]; exact HF4.out.dx.siw))
                refine wpList_run (v := .int .i64 E) (wanted_none rfl) (gx_assign rfl rfl) ?_
                simp only [Act.put, List.setIfInBounds_toArray, List.set_cons_zero, List.set_cons_succ]
                go_upto_region 23 with fail
                refine wp_region_lit ?_
                refine wpList_run (v := .pointer (some ⟨y, 0, none⟩)) (wanted_none rfl) (exec_move rfl rfl) ?_
                simp only [Act.put, List.setIfInBounds_toArray, List.set_cons_zero, List.set_cons_succ]
                refine wpList_run (v := .pointer (some ⟨v, 1, none⟩)) (wanted_none rfl) (exec_field (off := 0) (d := 1) rfl rfl (by kernel_rfl)) ?_
                simp only [Act.put, List.setIfInBounds_toArray, List.set_cons_zero, List.set_cons_succ]
                refine wpList_run (v := .int .i64 o.mem) (wanted_none rfl) (exec_load1 rfl rfl (by kernel_rfl) (HBv5.out.cell 1)) ?_
                simp only [Act.put, List.setIfInBounds_toArray, List.set_cons_zero, List.set_cons_succ]
                refine wpList_run (v := .pointer (some ⟨v, 3, none⟩)) (wanted_none rfl) (exec_field (off := 0) (d := 3) rfl rfl (by kernel_rfl)) ?_
                simp only [Act.put, List.setIfInBounds_toArray, List.set_cons_zero, List.set_cons_succ]
                refine wpList_run (v := strV o.pan) (wanted_none rfl) (exec_load1 rfl rfl (by kernel_rfl) (HBv5.out.cell 3)) ?_
                simp only [Act.put, List.setIfInBounds_toArray, List.set_cons_zero, List.set_cons_succ]
                refine wpList_run (v := .pointer (some ⟨v, 2, none⟩)) (wanted_none rfl) (exec_field (off := 0) (d := 2) rfl rfl (by kernel_rfl)) ?_
                simp only [Act.put, List.setIfInBounds_toArray, List.set_cons_zero, List.set_cons_succ]
                refine wpList_run (v := .int .i64 o.amt) (wanted_none rfl) (exec_load1 rfl rfl (by kernel_rfl) (HBv5.out.cell 2)) ?_
                simp only [Act.put, List.setIfInBounds_toArray, List.set_cons_zero, List.set_cons_succ]
                refine wpList_op (wanted_none rfl) fun K9 HK9 => ?_
                go_wp2_with fail
                refine (rAsk_at HRY.out (by have := HGJ.out; omega) HE.out HH.out).mono ?_
                rintro e w6 ⟨rfl, hr6, ht6⟩
                refine HK9.out _ _ ?_
                clear HK9
                try simp only [Act.put, List.setIfInBounds_toArray, List.set_cons_zero, List.set_cons_succ]
                have HBv6 := Lib.hid (HBv5.out.turn ht6 fun e => siw_blk HBv5.out (by decide) (by have e : v = y := e; rw [e]; exact HRY.out.siw))
                have HF6 := Lib.hid (HF4.out.step hd ht5 hr6 ht6 (by omega))
                clear hd ht5 hr6 ht6
                refine wpList_run (v := .int .i64 E) (wanted_none rfl) (gx_assign rfl rfl) ?_
                simp only [Act.put, List.setIfInBounds_toArray, List.set_cons_zero, List.set_cons_succ]
                go_upto_region 24 with fail
                refine wp_region_lit ?_
                refine wpList_run (v := .int .i64 E) (wanted_none rfl) (exec_move rfl rfl) ?_
                simp only [Act.put, List.setIfInBounds_toArray, List.set_cons_zero, List.set_cons_succ]
                refine wpList_run (v := .int .i64 E) (wanted_none rfl) (exec_move rfl rfl) ?_
                simp only [Act.put, List.setIfInBounds_toArray, List.set_cons_zero, List.set_cons_succ]
                refine wpList_run (v := .bool false) (wanted_none rfl) (ix_neq rfl rfl rfl (decide_eq_false (fun e => e rfl))) ?_
                simp only [Act.put, List.setIfInBounds_toArray, List.set_cons_zero, List.set_cons_succ]
                have HBd := Lib.hid (show Blk w6.drew v 37 o.cells.toArray from HBv6.out)
                have HFd := Lib.hid ((HF6.out).still (Turn.refl nowhere w6).drew)
                obtain ⟨p1, hp1⟩ : ∃ z9, z9 = h9 (o.mem, o.pan) := ⟨_, rfl⟩
                obtain ⟨p2, hp2⟩ : ∃ z9, z9 = hz (o.mem, o.pan) := ⟨_, rfl⟩
                have HP1 := Lib.hid hp1.symm
                have HP2 := Lib.hid hp2.symm
                clear hp1 hp2
                go_upto_region 36 with fail
                refine wp_region_alw (fun W9 => W9 = w6.drew) (by kernel_rfl) ?_
                have hS0 : (fun W9 => W9 = w6.drew) w6.drew := rfl
                generalize w6.drew = wd at *
                refine alw_take (i := 0) (v := .pointer (some ⟨x, 0, none⟩)) rfl (by kernel_rfl) (by kernel_rfl) (fun _ _ _ h => h) (.inl ⟨by rfl, fun W hW => exec_move rfl rfl⟩) hS0 ?_
                simp only [Act.put, List.setIfInBounds_toArray, List.set_cons_zero, List.set_cons_succ]
                refine alw_take (i := 1) (v := .pointer (some ⟨v, 1, none⟩)) rfl (by kernel_rfl) (by kernel_rfl) (fun _ _ _ h => h) (.inl ⟨by rfl, fun W hW => exec_field (off := 0) (d := 1) rfl rfl (by kernel_rfl)⟩) hS0 ?_
                simp only [Act.put, List.setIfInBounds_toArray, List.set_cons_zero, List.set_cons_succ]
                refine alw_take (i := 2) (v := .int .i64 o.mem) rfl (by kernel_rfl) (by kernel_rfl) (fun _ _ _ h => h) (.inl ⟨by rfl, fun W hW => by subst hW; exact exec_load1 rfl rfl (by kernel_rfl) (HBd.out.cell 1)⟩) hS0 ?_
                simp only [Act.put, List.setIfInBounds_toArray, List.set_cons_zero, List.set_cons_succ]
                refine alw_take (i := 3) (v := .pointer (some ⟨v, 3, none⟩)) rfl (by kernel_rfl) (by kernel_rfl) (fun _ _ _ h => h) (.inl ⟨by rfl, fun W hW => exec_field (off := 0) (d := 3) rfl rfl (by kernel_rfl)⟩) hS0 ?_
                simp only [Act.put, List.setIfInBounds_toArray, List.set_cons_zero, List.set_cons_succ]
                refine alw_take (i := 4) (v := strV o.pan) rfl (by kernel_rfl) (by kernel_rfl) (fun _ _ _ h => h) (.inl ⟨by rfl, fun W hW => by subst hW; exact exec_load1 rfl rfl (by kernel_rfl) (HBd.out.cell 3)⟩) hS0 ?_
                simp only [Act.put, List.setIfInBounds_toArray, List.set_cons_zero, List.set_cons_succ]
                refine alw_take (i := 6) (v := .pointer (some ⟨y, 0, none⟩)) rfl (by kernel_rfl) (by kernel_rfl) (fun _ _ _ h => h) (.inl ⟨by rfl, fun W hW => exec_move rfl rfl⟩) hS0 ?_
                simp only [Act.put, List.setIfInBounds_toArray, List.set_cons_zero, List.set_cons_succ]
                refine alw_take (i := 7) (v := .pointer (some ⟨v, 1, none⟩)) rfl (by kernel_rfl) (by kernel_rfl) (fun _ _ _ h => h) (.inl ⟨by rfl, fun W hW => exec_field (off := 0) (d := 1) rfl rfl (by kernel_rfl)⟩) hS0 ?_
                simp only [Act.put, List.setIfInBounds_toArray, List.set_cons_zero, List.set_cons_succ]
                refine alw_take (i := 8) (v := .int .i64 o.mem) rfl (by kernel_rfl) (by kernel_rfl) (fun _ _ _ h => h) (.inl ⟨by rfl, fun W hW => by subst hW; exact exec_load1 rfl rfl (by kernel_rfl) (HBd.out.cell 1)⟩) hS0 ?_
                simp only [Act.put, List.setIfInBounds_toArray, List.set_cons_zero, List.set_cons_succ]
                refine alw_take (i := 9) (v := .pointer (some ⟨v, 3, none⟩)) rfl (by kernel_rfl) (by kernel_rfl) (fun _ _ _ h => h) (.inl ⟨by rfl, fun W hW => exec_field (off := 0) (d := 3) rfl rfl (by kernel_rfl)⟩) hS0 ?_
                simp only [Act.put, List.setIfInBounds_toArray, List.set_cons_zero, List.set_cons_succ]
                refine alw_take (i := 10) (v := strV o.pan) rfl (by kernel_rfl) (by kernel_rfl) (fun _ _ _ h => h) (.inl ⟨by rfl, fun W hW => by subst hW; exact exec_load1 rfl rfl (by kernel_rfl) (HBd.out.cell 3)⟩) hS0 ?_
                simp only [Act.put, List.setIfInBounds_toArray, List.set_cons_zero, List.set_cons_succ]
                refine alw_step (i := 5) (by kernel_rfl) rfl rfl ?_
                intro K1 HK1
                go_wp2_with fail
                refine (Had_at HFd.out.dx HOK.out.2.2 HP1.out).mono ?_
                rintro e wd ⟨rfl, rfl⟩

                refine HK1.out _ _ ⟨rfl, ?_⟩
                clear HK1
                try simp only [Act.put, List.setIfInBounds_toArray, List.set_cons_zero, List.set_cons_succ]
                refine alw_step (i := 11) (by kernel_rfl) rfl rfl ?_
                intro K1 HK1
                go_wp2_with fail
                refine (rHad_at HFd.out.ry (by have := HGJ.out; omega) HP1.out).mono ?_
                rintro e wd ⟨rfl, rfl⟩

                refine HK1.out _ _ ⟨rfl, ?_⟩
                clear HK1
                try simp only [Act.put, List.setIfInBounds_toArray, List.set_cons_zero, List.set_cons_succ]
                have hS0 : (fun W9 => W9 = wd) wd := rfl
                refine alw_take (i := 12) (v := .bool false) rfl (by kernel_rfl) (by kernel_rfl) (fun _ _ _ h => h) (.inl ⟨by rfl, fun W hW => ix_neq rfl rfl rfl (decide_eq_false (fun e => e rfl))⟩) hS0 ?_
                simp only [Act.put, List.setIfInBounds_toArray, List.set_cons_zero, List.set_cons_succ]
                refine alw_take (i := 13) (v := .bool false) rfl (by kernel_rfl) (by kernel_rfl) (fun _ _ _ h => h) (.inl ⟨by rfl, fun W hW => exec_move rfl rfl⟩) hS0 ?_
                simp only [Act.put, List.setIfInBounds_toArray, List.set_cons_zero, List.set_cons_succ]
                refine alw_take (i := 14) (v := .pointer (some ⟨z, 0, none⟩)) rfl (by kernel_rfl) (by kernel_rfl) (fun _ _ _ h => h) (.inl ⟨by rfl, fun W hW => exec_move rfl rfl⟩) hS0 ?_
                simp only [Act.put, List.setIfInBounds_toArray, List.set_cons_zero, List.set_cons_succ]
                refine alw_take (i := 15) (v := .pointer (some ⟨v, 1, none⟩)) rfl (by kernel_rfl) (by kernel_rfl) (fun _ _ _ h => h) (.inl ⟨by rfl, fun W hW => exec_field (off := 0) (d := 1) rfl rfl (by kernel_rfl)⟩) hS0 ?_
                simp only [Act.put, List.setIfInBounds_toArray, List.set_cons_zero, List.set_cons_succ]
                refine alw_take (i := 16) (v := .int .i64 o.mem) rfl (by kernel_rfl) (by kernel_rfl) (fun _ _ _ h => h) (.inl ⟨by rfl, fun W hW => by subst hW; exact exec_load1 rfl rfl (by kernel_rfl) (HBd.out.cell 1)⟩) hS0 ?_
                simp only [Act.put, List.setIfInBounds_toArray, List.set_cons_zero, List.set_cons_succ]
                refine alw_take (i := 17) (v := .pointer (some ⟨v, 3, none⟩)) rfl (by kernel_rfl) (by kernel_rfl) (fun _ _ _ h => h) (.inl ⟨by rfl, fun W hW => exec_field (off := 0) (d := 3) rfl rfl (by kernel_rfl)⟩) hS0 ?_
                simp only [Act.put, List.setIfInBounds_toArray, List.set_cons_zero, List.set_cons_succ]
                refine alw_take (i := 18) (v := strV o.pan) rfl (by kernel_rfl) (by kernel_rfl) (fun _ _ _ h => h) (.inl ⟨by rfl, fun W hW => by subst hW; exact exec_load1 rfl rfl (by kernel_rfl) (HBd.out.cell 3)⟩) hS0 ?_
                simp only [Act.put, List.setIfInBounds_toArray, List.set_cons_zero, List.set_cons_succ]
                refine alw_take (i := 20) (v := .pointer (some ⟨u, 0, none⟩)) rfl (by kernel_rfl) (by kernel_rfl) (fun _ _ _ h => h) (.inl ⟨by rfl, fun W hW => exec_move rfl rfl⟩) hS0 ?_
                simp only [Act.put, List.setIfInBounds_toArray, List.set_cons_zero, List.set_cons_succ]
                refine alw_take (i := 21) (v := .pointer (some ⟨v, 1, none⟩)) rfl (by kernel_rfl) (by kernel_rfl) (fun _ _ _ h => h) (.inl ⟨by rfl, fun W hW => exec_field (off := 0) (d := 1) rfl rfl (by kernel_rfl)⟩) hS0 ?_
                simp only [Act.put, List.setIfInBounds_toArray, List.set_cons_zero, List.set_cons_succ]
                refine alw_take (i := 22) (v := .int .i64 o.mem) rfl (by kernel_rfl) (by kernel_rfl) (fun _ _ _ h => h) (.inl ⟨by rfl, fun W hW => by subst hW; exact exec_load1 rfl rfl (by kernel_rfl) (HBd.out.cell 1)⟩) hS0 ?_
                simp only [Act.put, List.setIfInBounds_toArray, List.set_cons_zero, List.set_cons_succ]
                refine alw_take (i := 23) (v := .pointer (some ⟨v, 3, none⟩)) rfl (by kernel_rfl) (by kernel_rfl) (fun _ _ _ h => h) (.inl ⟨by rfl, fun W hW => exec_field (off := 0) (d := 3) rfl rfl (by kernel_rfl)⟩) hS0 ?_
                simp only [Act.put, List.setIfInBounds_toArray, List.set_cons_zero, List.set_cons_succ]
                refine alw_take (i := 24) (v := strV o.pan) rfl (by kernel_rfl) (by kernel_rfl) (fun _ _ _ h => h) (.inl ⟨by rfl, fun W hW => by subst hW; exact exec_load1 rfl rfl (by kernel_rfl) (HBd.out.cell 3)⟩) hS0 ?_
                simp only [Act.put, List.setIfInBounds_toArray, List.set_cons_zero, List.set_cons_succ]
                refine alw_step (i := 19) (by kernel_rfl) rfl rfl ?_
                intro K1 HK1
                go_wp2_with fail
                refine (Had_at HFd.out.dz HOK.out.2.2 HP2.out).mono ?_
                rintro e wd ⟨rfl, rfl⟩

                refine HK1.out _ _ ⟨rfl, ?_⟩
                clear HK1
                try simp only [Act.put, List.setIfInBounds_toArray, List.set_cons_zero, List.set_cons_succ]
                refine alw_step (i := 25) (by kernel_rfl) rfl rfl ?_
                intro K1 HK1
                go_wp2_with fail
                refine (rHad_at HFd.out.ru (by have := HGJ.out; omega) HP2.out).mono ?_
                rintro e wd ⟨rfl, rfl⟩

                refine HK1.out _ _ ⟨rfl, ?_⟩
                clear HK1
                try simp only [Act.put, List.setIfInBounds_toArray, List.set_cons_zero, List.set_cons_succ]
                have hS0 : (fun W9 => W9 = wd) wd := rfl
                refine alw_take (i := 26) (v := .bool false) rfl (by kernel_rfl) (by kernel_rfl) (fun _ _ _ h => h) (.inl ⟨by rfl, fun W hW => ix_neq rfl rfl rfl (decide_eq_false (fun e => e rfl))⟩) hS0 ?_
                simp only [Act.put, List.setIfInBounds_toArray, List.set_cons_zero, List.set_cons_succ]
                refine alw_take (i := 27) (v := .bool false) rfl (by kernel_rfl) (by kernel_rfl) (fun _ _ _ h => h) (.inl ⟨by rfl, fun W hW => ix_pickF rfl rfl rfl⟩) hS0 ?_
                simp only [Act.put, List.setIfInBounds_toArray, List.set_cons_zero, List.set_cons_succ]
                refine alw_done rfl ?_
                refine NoPanic.normal ?_
                clear hS0
                try simp only [Act.put, List.setIfInBounds_toArray, List.set_cons_zero, List.set_cons_succ]
                go_upto_region 19 with fail
                refine wp_region_lit ?_
                refine wpList_run (v := .int .i64 (j : Int)) (wanted_none rfl) (exec_move rfl rfl) ?_
                simp only [Act.put, List.setIfInBounds_toArray, List.set_cons_zero, List.set_cons_succ]
                refine wpList_run (v := .int .i64 ((j + 1 : Nat) : Int)) (wanted_none rfl) (ix_add rfl rfl rfl (by omega) (by omega)) ?_
                simp only [Act.put, List.setIfInBounds_toArray, List.set_cons_zero, List.set_cons_succ]
                refine wpList_run (v := .int .i64 ((j + 1 : Nat) : Int)) (wanted_none rfl) (gx_assign rfl rfl) ?_
                simp only [Act.put, List.setIfInBounds_toArray, List.set_cons_zero, List.set_cons_succ]
                go_wp2_with fail
                go_roundg (gk - 1)
                case measure => have := HGJ.out; have := H100.out; omega
                case rel => exact ⟨j + 1, _, _, _, _, _, _, _, _, rfl, by have := HGJ.out; have := H100.out; omega, rfl, rfl, rfl, rfl, HFd.out⟩
        · have y8 : ¬ (j : Int) < 100 := by omega
          clear h100
          go_upto_region 18 with fail
          refine wp_region_lit ?_
          refine wpList_run (v := .int .i64 (j : Int)) (wanted_none rfl) (exec_move rfl rfl) ?_
          simp only [Act.put, List.setIfInBounds_toArray, List.set_cons_zero, List.set_cons_succ]
          refine wpList_run (v := .slice B n c) (wanted_none rfl) (exec_move rfl rfl) ?_
          simp only [Act.put, List.setIfInBounds_toArray, List.set_cons_zero, List.set_cons_succ]
          refine wpList_run (v := .int .i64 (n : Int)) (wanted_none rfl) (gx_len rfl rfl Try.underlying23) ?_
          simp only [Act.put, List.setIfInBounds_toArray, List.set_cons_zero, List.set_cons_succ]
          refine wpList_run (v := .bool true) (wanted_none rfl) (ix_lss rfl rfl rfl (decide_eq_true y7)) ?_
          simp only [Act.put, List.setIfInBounds_toArray, List.set_cons_zero, List.set_cons_succ]
          refine wpList_run (v := .bool true) (wanted_none rfl) (exec_move rfl rfl) ?_
          simp only [Act.put, List.setIfInBounds_toArray, List.set_cons_zero, List.set_cons_succ]
          refine wpList_run (v := .int .i64 (j : Int)) rfl (exec_move rfl rfl) ?_
          simp only [Act.put, List.setIfInBounds_toArray, List.set_cons_zero, List.set_cons_succ]
          refine wpList_run (v := .bool false) rfl (ix_lss rfl rfl rfl (decide_eq_false y8)) ?_
          simp only [Act.put, List.setIfInBounds_toArray, List.set_cons_zero, List.set_cons_succ]
          refine wpList_run (v := .bool false) (wanted_none rfl) (ix_pickT rfl rfl rfl) ?_
          simp only [Act.put, List.setIfInBounds_toArray, List.set_cons_zero, List.set_cons_succ]
          go_upto_region 38 with fail
          refine wp_region_lit ?_
          refine wpList_run (v := .bool true) (wanted_none rfl) (gx_assign rfl rfl) ?_
          simp only [Act.put, List.setIfInBounds_toArray, List.set_cons_zero, List.set_cons_succ]
          go_wp2_with fail
          go_ret
          exact ⟨rfl, HF.out.tn⟩
      · have y7 : ¬ (j : Int) < (n : Int) := by omega
        clear hlt
        go_upto_region 18 with fail
        first
        | (rename_i K9 hK9; have HKC := Lib.hid hK9; clear hK9)
        | (rename_i K9 hK9 K8; have HKC := Lib.hid hK9; clear hK9)
        refine wp_region_lit ?_
        refine wpList_run (v := .int .i64 (j : Int)) (wanted_none rfl) (exec_move rfl rfl) ?_
        simp only [Act.put, List.setIfInBounds_toArray, List.set_cons_zero, List.set_cons_succ]
        refine wpList_run (v := .slice B n c) (wanted_none rfl) (exec_move rfl rfl) ?_
        simp only [Act.put, List.setIfInBounds_toArray, List.set_cons_zero, List.set_cons_succ]
        refine wpList_run (v := .int .i64 (n : Int)) (wanted_none rfl) (gx_len rfl rfl Try.underlying23) ?_
        simp only [Act.put, List.setIfInBounds_toArray, List.set_cons_zero, List.set_cons_succ]
        refine wpList_run (v := .bool false) (wanted_none rfl) (ix_lss rfl rfl rfl (decide_eq_false y7)) ?_
        simp only [Act.put, List.setIfInBounds_toArray, List.set_cons_zero, List.set_cons_succ]
        refine wpList_run (v := .bool false) (wanted_none rfl) (exec_move rfl rfl) ?_
        simp only [Act.put, List.setIfInBounds_toArray, List.set_cons_zero, List.set_cons_succ]
        go_wp2_with fail
        refine HKC.out _ _ ?_
        clear HKC
        go_upto_region 38 with fail
        refine wp_region_lit ?_
        refine wpList_run (v := .bool true) (wanted_none rfl) (gx_assign rfl rfl) ?_
        simp only [Act.put, List.setIfInBounds_toArray, List.set_cons_zero, List.set_cons_succ]
        go_wp2_with fail
        go_ret
        exact ⟨rfl, HF.out.tn⟩
  · have HZ := Lib.hid hz
    clear hz
    obtain ⟨E, hE⟩ : ∃ z9, z9 = Si.newE l := ⟨_, rfl⟩
    have HNW := Lib.hid (New_no (c := c2) HR2.out HCC2.out HM2.out HZ.out)
    have HNR := Lib.hid (fun (W9 : World) (h : Turn nowhere W W9) => rNew_no (c := q) (HR.out.still h) HCC.out HM2.out HZ.out)
    rw [← hE] at HNW HNR HZ
    clear hE
    go_upto_region 3 with fail
    refine wp_region_lit ?_
    refine wpList_run (v := .slice A2 m c2) (wanted_none rfl) (exec_move rfl rfl) ?_
    simp only [Act.put, List.setIfInBounds_toArray, List.set_cons_zero, List.set_cons_succ]
    refine wpList_op (wanted_none rfl) fun K9 HK9 => ?_
    go_wp2_with fail
    refine (HNW.out).mono ?_
    rintro e w3 ⟨rfl, ht⟩
    refine HK9.out _ _ ?_
    clear HK9
    try simp only [Act.put, List.setIfInBounds_toArray, List.set_cons_zero, List.set_cons_succ]
    have HT3 := Lib.hid (HT2.out.trans ht fun _ _ e => e)
    have HOFF := Lib.hid (show ∀ g off, A2 = some ⟨g, off, none⟩ → off = 0 from own_off HOR2.out)
    have HRM3 := Lib.hid (show Room w3 (.slice A2 m c2) m from fun g hg => by
      obtain ⟨cur, h1, h2⟩ := HRM2.out g hg
      exact ⟨cur, h1.turn ht fun e => e, h2⟩)
    clear ht
    refine wpList_run (v := .tuple #[.pointer none, .int .i64 E]) (wanted_none rfl) (exec_move rfl rfl) ?_
    simp only [Act.put, List.setIfInBounds_toArray, List.set_cons_zero, List.set_cons_succ]
    refine wpList_run (v := .pointer none) (wanted_none rfl) (ix_extract rfl rfl rfl) ?_
    simp only [Act.put, List.setIfInBounds_toArray, List.set_cons_zero, List.set_cons_succ]
    refine wpList_run (v := .int .i64 E) (wanted_none rfl) (ix_extract rfl rfl rfl) ?_
    simp only [Act.put, List.setIfInBounds_toArray, List.set_cons_zero, List.set_cons_succ]
    refine wpList_run (v := .pointer none) (wanted_none rfl) (gx_assign rfl rfl) ?_
    simp only [Act.put, List.setIfInBounds_toArray, List.set_cons_zero, List.set_cons_succ]
    refine wpList_run (v := .int .i64 E) (wanted_none rfl) (gx_assign rfl rfl) ?_
    simp only [Act.put, List.setIfInBounds_toArray, List.set_cons_zero, List.set_cons_succ]
    go_upto_region 4 with fail
    refine wp_region_lit ?_
    refine wpList_run (v := .int .i64 0) (wanted_none rfl) (gx_assign rfl rfl) ?_
    simp only [Act.put, List.setIfInBounds_toArray, List.set_cons_zero, List.set_cons_succ]
    go_wp2_with fail
    go_loopg [9] m (fun gk iv wr => ∃ i : Nat, iv = .int .i64 (i : Int) ∧ i + gk = m ∧ Room wr (.slice A2 m c2) m ∧ Turn (ownF (.slice A2 m c2)) w3 wr)
    case atStart => exact ⟨0, rfl, by omega, HRM3.out, Turn.refl _ _⟩
    obtain ⟨i, rfl, hgk, hrm, hto⟩ := hrel
    have HGK := Lib.hid hgk
    have HRM := Lib.hid hrm
    have HTO := Lib.hid hto
    have yi : (i : Int) ≤ (m : Int) := by omega
    clear hgk hrm hto
    by_cases hlt : i < m
    · as_aux_lemma =>
        have HLT := Lib.hid hlt
        have y3 : (i : Int) < (m : Int) := by omega
        obtain ⟨g, off, rfl⟩ : ∃ g off, A2 = some ⟨g, off, none⟩ := by
          obtain ⟨_, _, _, h4⟩ := HR2.out
          obtain ⟨g, off, e, _⟩ := h4 (by omega)
          exact ⟨g, off, e⟩
        have hoff : off = 0 := HOFF.out g off rfl
        subst hoff
        obtain ⟨cur, hcb, hcs⟩ := HRM.out g rfl
        have HCB := Lib.hid hcb
        have HCS := Lib.hid hcs
        clear hlt hcb hcs
        go_upto_region 5 with fail
        refine wp_region_lit ?_
        refine wpList_run (v := .int .i64 (i : Int)) (wanted_none rfl) (exec_move rfl rfl) ?_
        simp only [Act.put, List.setIfInBounds_toArray, List.set_cons_zero, List.set_cons_succ]
        refine wpList_run (v := .slice (some ⟨g, 0, none⟩) m c2) (wanted_none rfl) (exec_move rfl rfl) ?_
        simp only [Act.put, List.setIfInBounds_toArray, List.set_cons_zero, List.set_cons_succ]
        refine wpList_run (v := .int .i64 (m : Int)) (wanted_none rfl) (gx_len rfl rfl Try.underlying22) ?_
        simp only [Act.put, List.setIfInBounds_toArray, List.set_cons_zero, List.set_cons_succ]
        refine wpList_run (v := .bool true) (wanted_none rfl) (ix_lss rfl rfl rfl (decide_eq_true y3)) ?_
        simp only [Act.put, List.setIfInBounds_toArray, List.set_cons_zero, List.set_cons_succ]
        go_upto_region 7 with fail
        refine wp_region_lit ?_
        refine wpList_run (v := .slice (some ⟨g, 0, none⟩) m c2) (wanted_none rfl) (exec_move rfl rfl) ?_
        simp only [Act.put, List.setIfInBounds_toArray, List.set_cons_zero, List.set_cons_succ]
        refine wpList_run (v := .int .i64 (i : Int)) (wanted_none rfl) (exec_move rfl rfl) ?_
        simp only [Act.put, List.setIfInBounds_toArray, List.set_cons_zero, List.set_cons_succ]
        refine wpList_run (v := .agg #[.int .i64 549755813888, .int .i64 549755813888]) (wanted_none rfl) (exec_bst rfl) ?_
        simp only [Act.put, List.setIfInBounds_toArray, List.set_cons_zero, List.set_cons_succ]
        refine wpList_run (v := .pointer (some ⟨g, 0 + i * 2, none⟩)) (wanted_none rfl) (gx_iaddr (i := i) (sz := 2) rfl rfl rfl Try.underlying22 size_st HLT.out rfl) ?_
        simp only [Act.put, List.setIfInBounds_toArray, List.set_cons_zero, List.set_cons_succ]
        refine wpList_store_mid (wanted_none rfl) 30 (.tmp 36) (.tmp 35) rfl #[.int .i64 549755813888, .int .i64 549755813888] HCB.out rfl rfl (by have := HLT.out; have := HCS.out; show 0 + i * 2 + 2 ≤ cur.size; omega) (by rw [size_st]; rfl) (st_one _ _) ?_
        intro w4 C4 hb4 hs4 hc4 ht4
        have HRM4 := Lib.hid (show Room w4 (.slice (some ⟨g, 0, none⟩) m c2) m from fun g9 hg9 => by
          obtain rfl : g = g9 := by injection hg9
          exact ⟨C4, hb4, by rw [hs4]; exact HCS.out⟩)
        have HTO4 := Lib.hid (HTO.out.trans ht4 fun k hk e => by have e : k = g := e; rw [e]; rfl)
        clear hb4 hs4 hc4 ht4
        simp only [Act.put, List.setIfInBounds_toArray, List.set_cons_zero, List.set_cons_succ]
        go_upto_region 6 with fail
        refine wp_region_lit ?_
        refine wpList_run (v := .int .i64 (i : Int)) (wanted_none rfl) (exec_move rfl rfl) ?_
        simp only [Act.put, List.setIfInBounds_toArray, List.set_cons_zero, List.set_cons_succ]
        refine wpList_run (v := .int .i64 ((i + 1 : Nat) : Int)) (wanted_none rfl) (ix_add rfl rfl rfl (by omega) (by omega)) ?_
        simp only [Act.put, List.setIfInBounds_toArray, List.set_cons_zero, List.set_cons_succ]
        refine wpList_run (v := .int .i64 ((i + 1 : Nat) : Int)) (wanted_none rfl) (gx_assign rfl rfl) ?_
        simp only [Act.put, List.setIfInBounds_toArray, List.set_cons_zero, List.set_cons_succ]
        go_wp2_with fail
        go_roundg (m - (i + 1))
        case measure => have := HGK.out; have := HLT.out; omega
        case rel => exact ⟨i + 1, rfl, by have := HLT.out; omega, HRM4.out, HTO4.out⟩
    · obtain rfl : i = m := by omega
      have y3 : ¬ (i : Int) < (i : Int) := by omega
      clear hlt
      go_upto_region 5 with fail
      refine wp_region_lit ?_
      refine wpList_run (v := .int .i64 (i : Int)) (wanted_none rfl) (exec_move rfl rfl) ?_
      simp only [Act.put, List.setIfInBounds_toArray, List.set_cons_zero, List.set_cons_succ]
      refine wpList_run (v := .slice A2 i c2) (wanted_none rfl) (exec_move rfl rfl) ?_
      simp only [Act.put, List.setIfInBounds_toArray, List.set_cons_zero, List.set_cons_succ]
      refine wpList_run (v := .int .i64 (i : Int)) (wanted_none rfl) (gx_len rfl rfl Try.underlying22) ?_
      simp only [Act.put, List.setIfInBounds_toArray, List.set_cons_zero, List.set_cons_succ]
      refine wpList_run (v := .bool false) (wanted_none rfl) (ix_lss rfl rfl rfl (decide_eq_false y3)) ?_
      simp only [Act.put, List.setIfInBounds_toArray, List.set_cons_zero, List.set_cons_succ]
      have HT5 := Lib.hid (HT3.out.trans HTO.out fun k hk e => by
        have h9 := (HLT2.out k e).1
        omega)
      have HR5 := Lib.hid (HR.out.still HT5.out)
      go_upto_region 8 with fail
      refine wp_region_lit ?_
      refine wpList_run (v := .slice A i q) (wanted_none rfl) (exec_move rfl rfl) ?_
      simp only [Act.put, List.setIfInBounds_toArray, List.set_cons_zero, List.set_cons_succ]
      refine wpList_op (wanted_none rfl) fun K9 HK9 => ?_
      go_wp2_with fail
      refine (HNR.out _ HT5.out).mono ?_
      rintro e w6 ⟨rfl, ht⟩
      refine HK9.out _ _ ?_
      clear HK9
      try simp only [Act.put, List.setIfInBounds_toArray, List.set_cons_zero, List.set_cons_succ]
      have HT6 := Lib.hid (HT5.out.trans ht fun _ _ e => e)
      clear ht
      refine wpList_run (v := .tuple #[.pointer none, .int .i64 E]) (wanted_none rfl) (exec_move rfl rfl) ?_
      simp only [Act.put, List.setIfInBounds_toArray, List.set_cons_zero, List.set_cons_succ]
      refine wpList_run (v := .pointer none) (wanted_none rfl) (ix_extract rfl rfl rfl) ?_
      simp only [Act.put, List.setIfInBounds_toArray, List.set_cons_zero, List.set_cons_succ]
      refine wpList_run (v := .int .i64 E) (wanted_none rfl) (ix_extract rfl rfl rfl) ?_
      simp only [Act.put, List.setIfInBounds_toArray, List.set_cons_zero, List.set_cons_succ]
      refine wpList_run (v := .pointer none) (wanted_none rfl) (gx_assign rfl rfl) ?_
      simp only [Act.put, List.setIfInBounds_toArray, List.set_cons_zero, List.set_cons_succ]
      refine wpList_run (v := .int .i64 E) (wanted_none rfl) (gx_assign rfl rfl) ?_
      simp only [Act.put, List.setIfInBounds_toArray, List.set_cons_zero, List.set_cons_succ]
      go_upto_region 9 with fail
      refine wp_region_lit ?_
      refine wpList_run (v := .bool true) (wanted_none rfl) (exec_move rfl rfl) ?_
      simp only [Act.put, List.setIfInBounds_toArray, List.set_cons_zero, List.set_cons_succ]
      refine wpList_run (v := .bool false) (wanted_none rfl) (ix_not (b := true) rfl rfl) ?_
      simp only [Act.put, List.setIfInBounds_toArray, List.set_cons_zero, List.set_cons_succ]
      refine wpList_run (v := .bool false) (wanted_none rfl) (exec_move rfl rfl) ?_
      simp only [Act.put, List.setIfInBounds_toArray, List.set_cons_zero, List.set_cons_succ]
      refine wpList_run (v := .int .i64 E) rfl (exec_move rfl rfl) ?_
      simp only [Act.put, List.setIfInBounds_toArray, List.set_cons_zero, List.set_cons_succ]
      refine wpList_run (v := .int .i64 E) rfl (exec_move rfl rfl) ?_
      simp only [Act.put, List.setIfInBounds_toArray, List.set_cons_zero, List.set_cons_succ]
      refine wpList_run (v := .bool false) rfl (ix_neq rfl rfl rfl (decide_eq_false (fun e => e rfl))) ?_
      simp only [Act.put, List.setIfInBounds_toArray, List.set_cons_zero, List.set_cons_succ]
      refine wpList_run (v := .bool false) (wanted_none rfl) (ix_pickF rfl rfl rfl) ?_
      simp only [Act.put, List.setIfInBounds_toArray, List.set_cons_zero, List.set_cons_succ]
      refine wpList_run (v := .bool false) (wanted_none rfl) (exec_move rfl rfl) ?_
      simp only [Act.put, List.setIfInBounds_toArray, List.set_cons_zero, List.set_cons_succ]
      refine wpList_run (v := .pointer none) rfl (exec_move rfl rfl) ?_
      simp only [Act.put, List.setIfInBounds_toArray, List.set_cons_zero, List.set_cons_succ]
      refine wpList_run (v := .bool true) rfl (ptr_eqt (.inl rfl) rfl rfl rfl) ?_
      simp only [Act.put, List.setIfInBounds_toArray, List.set_cons_zero, List.set_cons_succ]
      refine wpList_run (v := .pointer none) rfl (exec_move rfl rfl) ?_
      simp only [Act.put, List.setIfInBounds_toArray, List.set_cons_zero, List.set_cons_succ]
      refine wpList_run (v := .bool true) rfl (ptr_eqt (.inr rfl) rfl rfl rfl) ?_
      simp only [Act.put, List.setIfInBounds_toArray, List.set_cons_zero, List.set_cons_succ]
      refine wpList_run (v := .bool false) rfl (bx_neb (p := true) (q := true) rfl rfl rfl) ?_
      simp only [Act.put, List.setIfInBounds_toArray, List.set_cons_zero, List.set_cons_succ]
      refine wpList_run (v := .bool false) (wanted_none rfl) (ix_pickF rfl rfl rfl) ?_
      simp only [Act.put, List.setIfInBounds_toArray, List.set_cons_zero, List.set_cons_succ]
      go_upto_region 11 with fail
      refine wp_region_lit ?_
      refine wpList_run (v := .pointer none) (wanted_none rfl) (exec_move rfl rfl) ?_
      simp only [Act.put, List.setIfInBounds_toArray, List.set_cons_zero, List.set_cons_succ]
      refine wpList_run (v := .bool true) (wanted_none rfl) (ptr_eqt (.inr rfl) rfl rfl rfl) ?_
      simp only [Act.put, List.setIfInBounds_toArray, List.set_cons_zero, List.set_cons_succ]
      go_upto_region 12 with fail
      refine wp_region_lit ?_
      refine wpList_run (v := .bool true) (wanted_none rfl) (gx_assign rfl rfl) ?_
      simp only [Act.put, List.setIfInBounds_toArray, List.set_cons_zero, List.set_cons_succ]
      go_wp2_with fail
      go_ret
      exact ⟨rfl, HT6.out⟩
theorem standinPlays_walk (A : Option Addr) (m q : Nat) (l : Lims) (B : Option Addr) (n c : Nat) (os : List SOp) (W : World) (hr : Rws W 2 A m (l.map limC)) (hcc : A = none → q = 0) (hm : m * 16 ≤ 140737488355328) (hk : OpAt W B n os) (hb : n ≤ 140737488355328) :
    Calls Try.prog 3 #[.slice A m q, .slice B n c] W fun e w' => e = .returned (.bool true) ∧ Below W.heap.size W w' :=
  (plays_walk W hr hcc hm hk hb).mono fun e w' ⟨h1, h2⟩ => ⟨h1, h2.below (Nat.le_refl _) fun _ _ e => e⟩
end Go.Proofs.Ytenflpbmjahbgaa
