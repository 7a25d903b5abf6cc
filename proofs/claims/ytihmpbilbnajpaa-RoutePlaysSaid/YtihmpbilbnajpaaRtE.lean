/-
  Routes: the reference's Add: the walk. No conditions.
-/
import Derived.Test.YtihmpbilbnajpaaRtD
namespace Go.Proofs.Ytihmpbilbnajpaa
open Go.RowKit
open Ix
open Rt (R)
set_option linter.unusedVariables false
set_option linter.unusedSimpArgs false
/-- the reference's table at y: its row, by rising prefixes -/
structure RefT (w : World) (B y : Nat) (m : Int) (v : Value) (vs : List RtV) : Prop where
  blk : Blk w y 49 #[.int .i64 m, v]
  own : OwnR w B B v vs
theorem RefT.still {w w' : World} {B y : Nat} {m : Int} {v : Value} {vs : List RtV} (h : RefT w B y m v vs) (ht : Turn nowhere w w') : RefT w' B y m v vs := ⟨h.blk.turn ht fun e => e, h.own.still ht⟩
/-- a block of another sort may turn -/
theorem OwnR.only {w w' : World} {B C y : Nat} {v : Value} {vs : List RtV} {t : TypeId} {cs : Array Value} (h : OwnR w B C v vs) (hy : Blk w y t cs) (h1 : t ≠ 38) (h2 : t ≠ 3) (ht : Turn (only y) w w') : OwnR w' B C v vs :=
  ⟨h.row.turn ht fun b hb e => h.row.ne hy h1 b hb e, fun r hr => Its.turn (h.its r hr) ht fun b hb e => (h.its r hr).2.ne hy h2 b hb e⟩
/-- the blocks of the reference's table -/
def RefG (y : Nat) (v : Value) (vs : List RtV) (b : Nat) : Prop := b = y ∨ v.ownBlock = some b ∨ ∃ r ∈ vs, (Value.slice r.A r.n r.c).ownBlock = some b
theorem RefT.low {w : World} {B y b : Nat} {m : Int} {v : Value} {vs : List RtV} (h : RefT w B y m v vs) (hb : RefG y v vs b) : (b = y ∨ B ≤ b) ∧ b < w.heap.size := by
  rcases hb with rfl | hb | ⟨r, hr, hb⟩
  · exact ⟨.inl rfl, h.blk.lt⟩
  · exact ⟨.inr (h.own.row.lt hb).1, (h.own.row.lt hb).2⟩
  · exact ⟨.inr ((h.own.its r hr).2.lt hb).1, ((h.own.its r hr).2.lt hb).2⟩
theorem RefT.off {w w' : World} {B y : Nat} {m : Int} {v : Value} {vs : List RtV} {F : Nat → Prop} (h : RefT w B y m v vs) (ht : Turn F w w') (hn : ∀ b, RefG y v vs b → ¬ F b) : RefT w' B y m v vs :=
  ⟨h.blk.turn ht (hn y (.inl rfl)), h.own.row.turn ht fun b hb => hn b (.inr (.inl hb)), fun r hr => Its.turn (h.own.its r hr) ht fun b hb => hn b (.inr (.inr ⟨r, hr, hb⟩))⟩
/-- what a call makes of the reference's table -/
def RefTo (w : World) (B y : Nat) (m : Int) (v : Value) (vs : List RtV) (l : List R) (w' : World) : Prop := ∃ v' vs', RefT w' B y m v' vs' ∧ vs'.map RtV.plain = l ∧ Turn (only y) w w' ∧ ∀ b, RefG y v' vs' b → RefG y v vs b ∨ w.heap.size ≤ b
theorem size_sT : (Try.prog.info? 22).map (·.size) = some 1 := by kernel_rfl
theorem fromK_nil {k : Nat} {A : Option Addr} {c d : Nat} (h : A = none → c = 0) (g : fromK k A c d = none) : c - d = 0 := by
  unfold fromK at g
  split at g
  · omega
  · cases A with
    | none => have := h rfl; omega
    | some a => cases g
theorem plain_at {vs : List RtV} {i : Nat} {r : RtV} (h : vs[i]? = some r) : (vs.map RtV.plain)[i]? = some r.plain := by rw [List.getElem?_map, h]; rfl
theorem has_of {vs : List RtV} {i : Nat} {r : RtV} {p : Key} (h : vs[i]? = some r) (e : r.pre = p) : Rt.has p (vs.map RtV.plain) := ⟨r.plain, List.mem_map.2 ⟨r, List.mem_of_getElem? h, rfl⟩, e⟩
theorem not_has {vs : List RtV} {p : Key} (h : ∀ i r, i < vs.length → vs[i]? = some r → r.pre ≠ p) : ¬ Rt.has p (vs.map RtV.plain) := by
  rintro ⟨x, hx, e⟩
  obtain ⟨r, hr, rfl⟩ := List.mem_map.1 hx
  obtain ⟨i, hi⟩ := List.mem_iff_getElem?.1 hr
  exact h i r (List.getElem?_eq_some_iff.1 hi).1 hi e
theorem OwnR.more {w W : World} {A A2 : Option Addr} {i c C m c2 : Nat} {us ys : List RtV} (h : OwnR W w.heap.size C (.slice A i c) us) (hT : Turn nowhere w W) (hl : us.length = i) (hb : Rws W 2 A2 m (ys.map RtV.cells)) (hz : A2 = none → c2 = 0) (hy : ∀ r ∈ ys, r.ok W ∧ Orw W C 3 1 (.slice r.A r.n r.c) (r.to_.map one1)) (hlen : (i + m) * 40 ≤ 140737488355328) :
    ∃ A' c' W', (Builtin.append_ #[22, 22] 22 #[.slice A i c, .slice A2 m c2]).run Try.prog W = .ok (.slice A' (i + m) c') W' ∧ OwnR W' w.heap.size C (.slice A' (i + m) c') (us ++ ys) ∧ Turn nowhere w W' := by
  have hlm : (us.map RtV.cells).length = i := by rw [List.length_map]; exact hl
  obtain ⟨A', c', W', hrun, hown, hg, _⟩ := orw_grow elmRt (ty := 22) h.row hT.size hb (fitT ys) hz (by rw [hlm]; exact hlen)
  rw [hlm] at hrun hown
  have ht : Turn (fun k => (Value.slice A i c).ownBlock = some k) W W' := (Turn.refl _ _).grown hg fun g e _ => e
  have key : ∀ r : RtV, (r.ok W ∧ Orw W C 3 1 (.slice r.A r.n r.c) (r.to_.map one1)) → (r.ok W' ∧ Orw W' C 3 1 (.slice r.A r.n r.c) (r.to_.map one1)) := fun r hr =>
    Its.turn hr ht fun b hb e => by
      obtain ⟨cur, hcur⟩ := h.row.own_blk e
      exact hr.2.ne hcur (by decide) b hb rfl
  refine ⟨A', c', W', hrun, ⟨by rw [List.map_append]; exact hown, fun r hr => ?_⟩, hT.trans ht fun k hk e => ?_⟩
  · rcases List.mem_append.1 hr with hr | hr
    · exact key r (h.its r hr)
    · exact key r (hy r hr)
  · have := (h.row.lt e).1
    omega
set_option maxRecDepth 20000 in
set_option maxHeartbeats 4000000 in
theorem rAdd_walk {w : World} {B y : Nat} {m : Int} {v : Value} {vs : List RtV} {r : RtV} (h : RefT w B y m v vs) (hB : B ≤ w.heap.size) (hs : Rt.Srt (vs.map RtV.plain)) (hl : vs.length ≤ 32) (hr : r.ok w) :
    Calls Try.prog 15 #[.pointer (some ⟨y, 0, none⟩), .agg r.cells.toArray] w fun e w' => e = .returned (.int .i64 (Rt.addE m (vs.map RtV.plain) r.pre r.to_)) ∧ RefTo w B y m v vs (Rt.addL m (vs.map RtV.plain) r.pre r.to_) w' := by
  obtain ⟨A, c, rfl, hlc, _, hcz, _⟩ := h.own.row.form
  rw [List.length_map] at *
  obtain ⟨n, hn⟩ : ∃ n, n = vs.length := ⟨_, rfl⟩
  rw [← hn] at h hlc hl
  try rw [← hn]
  obtain ⟨l, hpl⟩ : ∃ l, l = vs.map RtV.plain := ⟨_, rfl⟩
  rw [← hpl] at hs ⊢
  obtain ⟨P, hP⟩ : ∃ P, P = Rt.pos r.pre l := ⟨_, rfl⟩
  have HPN := Lib.hid (show P ≤ n from by rw [hP, hn]; have := Rt.pos_le r.pre l; rw [hpl, List.length_map] at this; rw [hpl]; exact this)
  have HR := Lib.hid h
  have HB := Lib.hid hB
  have HN := Lib.hid hn
  have HS := Lib.hid hs
  have HL := Lib.hid hl
  have HLC := Lib.hid hlc
  have HCZ := Lib.hid hcz
  have HRO := Lib.hid hr
  have HPL := Lib.hid hpl
  have HP := Lib.hid hP
  have yn : (n : Int) ≤ 32 := by omega
  have yP : (P : Int) ≤ (n : Int) := by have := HPN.out; omega
  clear h hB hn hs hl hlc hcz hr hpl hP
  go_enter Try.func15, Try.ntmps15
  go_upto_region 1 with fail
  have hb3 := Blk.new w 38 r.cells.toArray
  have ht0 := (Turn.refl nowhere w).alloc (.cells r.cells.toArray 38)
  obtain ⟨w1, hw1⟩ : ∃ v, v = w.alloc (.cells r.cells.toArray 38) := ⟨_, rfl⟩
  obtain ⟨g3, hg3⟩ : ∃ g, g = w.heap.size := ⟨_, rfl⟩
  rw [← hw1] at hb3 ht0
  rw [← hg3] at hb3
  first | rw [← hw1] | (rw [show w.alloc (.cells #[strV r.pre, .slice r.A r.n r.c] 38) = w1 from hw1.symm])
  rw [← hg3]
  have HB3 := Lib.hid hb3
  have HT0 := Lib.hid ht0
  have HR1 := Lib.hid (HR.out.still ht0)
  have HRO1 := Lib.hid (HRO.out.still ht0)
  clear hb3 ht0 hw1 hg3
  refine wp_region_lit ?_
  refine wpList_run (v := .pointer (some ⟨g3, 0, none⟩)) (wanted_none rfl) (exec_field (off := 0) (d := 0) rfl rfl (by kernel_rfl)) ?_
  simp only [Act.put, List.setIfInBounds_toArray, List.set_cons_zero, List.set_cons_succ]
  refine wpList_run (v := strV r.pre) (wanted_none rfl) (exec_load1 rfl rfl (by kernel_rfl) (HB3.out.cell 0)) ?_
  simp only [Act.put, List.setIfInBounds_toArray, List.set_cons_zero, List.set_cons_succ]
  have HPR := Lib.hid (rprefix_walk (w := w1) (p := r.pre) HRO1.out.pl)
  refine wpList_op rfl fun K9 HK9 => ?_
  go_wp2_with fail
  refine (HPR.out).mono ?_
  rintro e w2 ⟨rfl, hw⟩
  refine HK9.out _ _ ?_
  clear HK9
  try simp only [Act.put, List.setIfInBounds_toArray, List.set_cons_zero, List.set_cons_succ]
  replace hw := hw.symm
  subst hw
  clear HPR
  cases hpo : Rt.prefOk r.pre with
  | false =>
    have HE := Lib.hid (show Rt.addE m l r.pre r.to_ = 110 from by unfold Rt.addE; rw [if_pos hpo])
    clear hpo
    refine wpList_run (v := .bool true) (wanted_none rfl) (ix_not (b := false) rfl rfl) ?_
    simp only [Act.put, List.setIfInBounds_toArray, List.set_cons_zero, List.set_cons_succ]
    go_upto_region 2 with fail
    refine wp_region_lit ?_
    refine wpList_run (v := .int .i64 110) (wanted_none rfl) (gx_assign rfl rfl) ?_
    simp only [Act.put, List.setIfInBounds_toArray, List.set_cons_zero, List.set_cons_succ]
    go_wp2_with fail
    go_ret
    exact ⟨by rw [HE.out]; rfl, by rw [Rt.addL_no (by rw [HE.out]; decide)]; exact ⟨_, _, HR1.out, HPL.out.symm, (HT0.out).mono fun _ _ e => e.elim, fun b hb => .inl hb⟩⟩
  | true =>
    have HPO := Lib.hid hpo
    clear hpo
    refine wpList_run (v := .bool false) (wanted_none rfl) (ix_not (b := true) rfl rfl) ?_
    simp only [Act.put, List.setIfInBounds_toArray, List.set_cons_zero, List.set_cons_succ]
    go_upto_region 3 with fail
    refine wp_region_lit ?_
    refine wpList_run (v := .pointer (some ⟨y, 0, none⟩)) (wanted_none rfl) (exec_move rfl rfl) ?_
    simp only [Act.put, List.setIfInBounds_toArray, List.set_cons_zero, List.set_cons_succ]
    refine wpList_run (v := .pointer (some ⟨g3, 1, none⟩)) (wanted_none rfl) (exec_field (off := 0) (d := 1) rfl rfl (by kernel_rfl)) ?_
    simp only [Act.put, List.setIfInBounds_toArray, List.set_cons_zero, List.set_cons_succ]
    refine wpList_run (v := .slice r.A r.n r.c) (wanted_none rfl) (exec_load1 rfl rfl (by kernel_rfl) (HB3.out.cell 1)) ?_
    simp only [Act.put, List.setIfInBounds_toArray, List.set_cons_zero, List.set_cons_succ]
    have HTO := Lib.hid (rto_walk (c := r.c) HR1.out.blk HRO1.out.ia)
    refine wpList_op rfl fun K9 HK9 => ?_
    go_wp2_with fail
    refine (HTO.out).mono ?_
    rintro e w2 ⟨rfl, ht2⟩
    refine HK9.out _ _ ?_
    clear HK9
    try simp only [Act.put, List.setIfInBounds_toArray, List.set_cons_zero, List.set_cons_succ]
    have HT2 := Lib.hid (HT0.out.trans ht2 fun _ _ e => e)
    have HR2 := Lib.hid (HR1.out.still ht2)
    have HB32 := Lib.hid (HB3.out.turn ht2 fun e => e)
    have HRO2 := Lib.hid (HRO1.out.still ht2)
    clear ht2 HTO
    by_cases hto : Rt.toOk m r.to_
    · have HTOK := Lib.hid hto
      rw [decide_eq_true hto]
      clear hto
      refine wpList_run (v := .bool false) (wanted_none rfl) (ix_not (b := true) rfl rfl) ?_
      simp only [Act.put, List.setIfInBounds_toArray, List.set_cons_zero, List.set_cons_succ]
      go_upto_region 5 with fail
      refine wp_region_lit ?_
      refine wpList_run (v := .int .i64 0) (wanted_none rfl) (gx_assign rfl rfl) ?_
      simp only [Act.put, List.setIfInBounds_toArray, List.set_cons_zero, List.set_cons_succ]
      go_upto_region 6 with fail
      refine wp_region_lit ?_
      refine wpList_run (v := .int .i64 0) (wanted_none rfl) (gx_assign rfl rfl) ?_
      simp only [Act.put, List.setIfInBounds_toArray, List.set_cons_zero, List.set_cons_succ]
      go_wp2_with fail
      go_loopg [5, 6] n (fun gk av iv wr => ∃ i : Nat, iv = .int .i64 (i : Int) ∧ av = .int .i64 ((min i P : Nat) : Int) ∧ i + gk = n ∧ (∀ j x, j < i → vs[j]? = some x → x.pre ≠ r.pre) ∧ Turn nowhere w2 wr)
      case atStart => exact ⟨0, rfl, by simp, by omega, fun j x hj => absurd hj (by omega), Turn.refl _ _⟩
      obtain ⟨i, rfl, rfl, hgk, hne, htr⟩ := hrel
      have HGK := Lib.hid hgk
      have HNE := Lib.hid hne
      have HTR := Lib.hid htr
      have HRW := Lib.hid (HR2.out.still htr)
      have HBW := Lib.hid (HB32.out.turn htr fun e => e)
      obtain ⟨q, hq⟩ : ∃ q, q = min i P := ⟨_, rfl⟩
      rw [← hq]
      have HQ := Lib.hid hq
      have yi : (i : Int) ≤ (n : Int) := by omega
      clear hgk hne htr hq
      by_cases hlt : i < n
      · have HLT := Lib.hid hlt
        have y3 : (i : Int) < (n : Int) := by omega
        obtain ⟨z, hz⟩ := getQ (l := vs) (i := i) (by have := HN.out; omega)
        have HZ := Lib.hid hz
        obtain ⟨b1, c1, e1, _, _⟩ := HRW.out.own.row.some_ (by rw [List.length_map, ← HN.out]; omega)
        injection e1 with e2 e3 e4
        subst e2
        have hel := HRW.out.own.row.el0 (i := i) (r := z.cells) (by rw [List.getElem?_map, hz]; rfl)
        have HC := Lib.hid (show wr.cell? ⟨b1, 0 + i * 2 + 0, none⟩ = some (strV z.pre) from hel 0 _ rfl)
        clear e3 e4 hz hlt hel
        go_upto_region 7 with fail
        refine wp_region_lit ?_
        refine wpList_run (v := .int .i64 (i : Int)) (wanted_none rfl) (exec_move rfl rfl) ?_
        simp only [Act.put, List.setIfInBounds_toArray, List.set_cons_zero, List.set_cons_succ]
        refine wpList_run (v := .pointer (some ⟨y, 0, none⟩)) (wanted_none rfl) (exec_move rfl rfl) ?_
        simp only [Act.put, List.setIfInBounds_toArray, List.set_cons_zero, List.set_cons_succ]
        refine wpList_run (v := .pointer (some ⟨y, 0, none⟩)) (wanted_none rfl) (exec_nil rfl rfl) ?_
        simp only [Act.put, List.setIfInBounds_toArray, List.set_cons_zero, List.set_cons_succ]
        refine wpList_run (v := .pointer (some ⟨y, 1, none⟩)) (wanted_none rfl) (exec_field (off := 0) (d := 1) rfl rfl (by kernel_rfl)) ?_
        simp only [Act.put, List.setIfInBounds_toArray, List.set_cons_zero, List.set_cons_succ]
        refine wpList_run (v := .slice (some ⟨b1, 0, none⟩) n c) (wanted_none rfl) (exec_load1 rfl rfl (by kernel_rfl) (HRW.out.blk.cell 1)) ?_
        simp only [Act.put, List.setIfInBounds_toArray, List.set_cons_zero, List.set_cons_succ]
        refine wpList_run (v := .int .i64 (n : Int)) (wanted_none rfl) (gx_len rfl rfl Try.underlying22) ?_
        simp only [Act.put, List.setIfInBounds_toArray, List.set_cons_zero, List.set_cons_succ]
        refine wpList_run (v := .bool true) (wanted_none rfl) (ix_lss rfl rfl rfl (decide_eq_true y3)) ?_
        simp only [Act.put, List.setIfInBounds_toArray, List.set_cons_zero, List.set_cons_succ]
        by_cases hzp : z.pre = r.pre
        · have HZP := Lib.hid hzp
          have HE := Lib.hid (show Rt.addE m l r.pre r.to_ = 111 from by unfold Rt.addE; rw [if_neg (by rw [HPO.out]; decide), if_neg (not_not_intro HTOK.out), if_pos (by rw [HPL.out]; exact has_of HZ.out hzp)])
          clear hzp
          go_upto_region 9 with fail
          refine wp_region_alw (fun W => Blk W y 49 #[.int .i64 m, .slice (some ⟨b1, 0, none⟩) n c] ∧ Blk W g3 38 r.cells.toArray ∧ W.cell? ⟨b1, 0 + i * 2 + 0, none⟩ = some (strV z.pre)) (by kernel_rfl) ?_
          have hS0 := And.intro HRW.out.blk (And.intro HBW.out HC.out)
          refine alw_take (i := 0) (v := .pointer (some ⟨y, 0, none⟩)) rfl (by kernel_rfl) (by kernel_rfl) (fun _ _ _ h => h) (.inl ⟨by rfl, fun W hW => exec_move rfl rfl⟩) hS0 ?_
          simp only [Act.put, List.setIfInBounds_toArray, List.set_cons_zero, List.set_cons_succ]
          refine alw_take (i := 1) (v := .pointer (some ⟨y, 0, none⟩)) rfl (by kernel_rfl) (by kernel_rfl) (fun _ _ _ h => h) (.inl ⟨by rfl, fun W hW => exec_nil rfl rfl⟩) hS0 ?_
          simp only [Act.put, List.setIfInBounds_toArray, List.set_cons_zero, List.set_cons_succ]
          refine alw_take (i := 2) (v := .pointer (some ⟨y, 1, none⟩)) rfl (by kernel_rfl) (by kernel_rfl) (fun _ _ _ h => h) (.inl ⟨by rfl, fun W hW => exec_field (off := 0) (d := 1) rfl rfl (by kernel_rfl)⟩) hS0 ?_
          simp only [Act.put, List.setIfInBounds_toArray, List.set_cons_zero, List.set_cons_succ]
          refine alw_take (i := 3) (v := .slice (some ⟨b1, 0, none⟩) n c) rfl (by kernel_rfl) (by kernel_rfl) (fun _ _ _ h => h) (.inl ⟨by rfl, fun W hW => exec_load1 rfl rfl (by kernel_rfl) (hW.1.cell 1)⟩) hS0 ?_
          simp only [Act.put, List.setIfInBounds_toArray, List.set_cons_zero, List.set_cons_succ]
          refine alw_take (i := 4) (v := .int .i64 (i : Int)) rfl (by kernel_rfl) (by kernel_rfl) (fun _ _ _ h => h) (.inl ⟨by rfl, fun W hW => exec_move rfl rfl⟩) hS0 ?_
          simp only [Act.put, List.setIfInBounds_toArray, List.set_cons_zero, List.set_cons_succ]
          refine alw_take (i := 5) (v := .pointer (some ⟨b1, 0 + i * 2, none⟩)) rfl (by kernel_rfl) (by kernel_rfl) (fun _ _ _ h => h) (.inl ⟨by rfl, fun W hW => gx_iaddr (i := i) (sz := 2) rfl rfl rfl Try.underlying22 size_rt HLT.out rfl⟩) hS0 ?_
          simp only [Act.put, List.setIfInBounds_toArray, List.set_cons_zero, List.set_cons_succ]
          refine alw_take (i := 6) (v := .pointer (some ⟨b1, 0 + i * 2 + 0, none⟩)) rfl (by kernel_rfl) (by kernel_rfl) (fun _ _ _ h => h) (.inl ⟨by rfl, fun W hW => exec_field (off := 0 + i * 2) (d := 0) rfl rfl (by kernel_rfl)⟩) hS0 ?_
          simp only [Act.put, List.setIfInBounds_toArray, List.set_cons_zero, List.set_cons_succ]
          refine alw_take (i := 7) (v := strV z.pre) rfl (by kernel_rfl) (by kernel_rfl) (fun _ _ _ h => h) (.inl ⟨by rfl, fun W hW => exec_load1 rfl rfl (by kernel_rfl) hW.2.2⟩) hS0 ?_
          simp only [Act.put, List.setIfInBounds_toArray, List.set_cons_zero, List.set_cons_succ]
          refine alw_take (i := 8) (v := .pointer (some ⟨g3, 0, none⟩)) rfl (by kernel_rfl) (by kernel_rfl) (fun _ _ _ h => h) (.inl ⟨by rfl, fun W hW => exec_field (off := 0) (d := 0) rfl rfl (by kernel_rfl)⟩) hS0 ?_
          simp only [Act.put, List.setIfInBounds_toArray, List.set_cons_zero, List.set_cons_succ]
          refine alw_take (i := 9) (v := strV r.pre) rfl (by kernel_rfl) (by kernel_rfl) (fun _ _ _ h => h) (.inl ⟨by rfl, fun W hW => exec_load1 rfl rfl (by kernel_rfl) (hW.2.1.cell 0)⟩) hS0 ?_
          simp only [Act.put, List.setIfInBounds_toArray, List.set_cons_zero, List.set_cons_succ]
          refine alw_take (i := 10) (v := .bool true) rfl (by kernel_rfl) (by kernel_rfl) (fun _ _ _ h => h) (.inl ⟨by rfl, fun W hW => exec_seqlr rfl rfl rfl (by rw [HZP.out]; simp)⟩) hS0 ?_
          simp only [Act.put, List.setIfInBounds_toArray, List.set_cons_zero, List.set_cons_succ]
          refine alw_done rfl ?_
          refine NoPanic.normal ?_
          clear hS0
          try simp only [Act.put, List.setIfInBounds_toArray, List.set_cons_zero, List.set_cons_succ]
          go_upto_region 10 with fail
          refine wp_region_lit ?_
          refine wpList_run (v := .int .i64 111) (wanted_none rfl) (gx_assign rfl rfl) ?_
          simp only [Act.put, List.setIfInBounds_toArray, List.set_cons_zero, List.set_cons_succ]
          go_wp2_with fail
          go_ret
          exact ⟨by rw [HE.out]; rfl, by rw [Rt.addL_no (by rw [HE.out]; decide)]; exact ⟨_, _, HRW.out.still ((Turn.refl _ _).drew), HPL.out.symm, ((HT2.out.trans HTR.out fun _ _ e => e).drew).mono fun _ _ e => e.elim, fun b hb => .inl hb⟩⟩
        · have HZP := Lib.hid hzp
          clear hzp
          go_upto_region 9 with fail
          refine wp_region_alw (fun W => Blk W y 49 #[.int .i64 m, .slice (some ⟨b1, 0, none⟩) n c] ∧ Blk W g3 38 r.cells.toArray ∧ W.cell? ⟨b1, 0 + i * 2 + 0, none⟩ = some (strV z.pre)) (by kernel_rfl) ?_
          have hS0 := And.intro HRW.out.blk (And.intro HBW.out HC.out)
          refine alw_take (i := 0) (v := .pointer (some ⟨y, 0, none⟩)) rfl (by kernel_rfl) (by kernel_rfl) (fun _ _ _ h => h) (.inl ⟨by rfl, fun W hW => exec_move rfl rfl⟩) hS0 ?_
          simp only [Act.put, List.setIfInBounds_toArray, List.set_cons_zero, List.set_cons_succ]
          refine alw_take (i := 1) (v := .pointer (some ⟨y, 0, none⟩)) rfl (by kernel_rfl) (by kernel_rfl) (fun _ _ _ h => h) (.inl ⟨by rfl, fun W hW => exec_nil rfl rfl⟩) hS0 ?_
          simp only [Act.put, List.setIfInBounds_toArray, List.set_cons_zero, List.set_cons_succ]
          refine alw_take (i := 2) (v := .pointer (some ⟨y, 1, none⟩)) rfl (by kernel_rfl) (by kernel_rfl) (fun _ _ _ h => h) (.inl ⟨by rfl, fun W hW => exec_field (off := 0) (d := 1) rfl rfl (by kernel_rfl)⟩) hS0 ?_
          simp only [Act.put, List.setIfInBounds_toArray, List.set_cons_zero, List.set_cons_succ]
          refine alw_take (i := 3) (v := .slice (some ⟨b1, 0, none⟩) n c) rfl (by kernel_rfl) (by kernel_rfl) (fun _ _ _ h => h) (.inl ⟨by rfl, fun W hW => exec_load1 rfl rfl (by kernel_rfl) (hW.1.cell 1)⟩) hS0 ?_
          simp only [Act.put, List.setIfInBounds_toArray, List.set_cons_zero, List.set_cons_succ]
          refine alw_take (i := 4) (v := .int .i64 (i : Int)) rfl (by kernel_rfl) (by kernel_rfl) (fun _ _ _ h => h) (.inl ⟨by rfl, fun W hW => exec_move rfl rfl⟩) hS0 ?_
          simp only [Act.put, List.setIfInBounds_toArray, List.set_cons_zero, List.set_cons_succ]
          refine alw_take (i := 5) (v := .pointer (some ⟨b1, 0 + i * 2, none⟩)) rfl (by kernel_rfl) (by kernel_rfl) (fun _ _ _ h => h) (.inl ⟨by rfl, fun W hW => gx_iaddr (i := i) (sz := 2) rfl rfl rfl Try.underlying22 size_rt HLT.out rfl⟩) hS0 ?_
          simp only [Act.put, List.setIfInBounds_toArray, List.set_cons_zero, List.set_cons_succ]
          refine alw_take (i := 6) (v := .pointer (some ⟨b1, 0 + i * 2 + 0, none⟩)) rfl (by kernel_rfl) (by kernel_rfl) (fun _ _ _ h => h) (.inl ⟨by rfl, fun W hW => exec_field (off := 0 + i * 2) (d := 0) rfl rfl (by kernel_rfl)⟩) hS0 ?_
          simp only [Act.put, List.setIfInBounds_toArray, List.set_cons_zero, List.set_cons_succ]
          refine alw_take (i := 7) (v := strV z.pre) rfl (by kernel_rfl) (by kernel_rfl) (fun _ _ _ h => h) (.inl ⟨by rfl, fun W hW => exec_load1 rfl rfl (by kernel_rfl) hW.2.2⟩) hS0 ?_
          simp only [Act.put, List.setIfInBounds_toArray, List.set_cons_zero, List.set_cons_succ]
          refine alw_take (i := 8) (v := .pointer (some ⟨g3, 0, none⟩)) rfl (by kernel_rfl) (by kernel_rfl) (fun _ _ _ h => h) (.inl ⟨by rfl, fun W hW => exec_field (off := 0) (d := 0) rfl rfl (by kernel_rfl)⟩) hS0 ?_
          simp only [Act.put, List.setIfInBounds_toArray, List.set_cons_zero, List.set_cons_succ]
          refine alw_take (i := 9) (v := strV r.pre) rfl (by kernel_rfl) (by kernel_rfl) (fun _ _ _ h => h) (.inl ⟨by rfl, fun W hW => exec_load1 rfl rfl (by kernel_rfl) (hW.2.1.cell 0)⟩) hS0 ?_
          simp only [Act.put, List.setIfInBounds_toArray, List.set_cons_zero, List.set_cons_succ]
          refine alw_take (i := 10) (v := .bool false) rfl (by kernel_rfl) (by kernel_rfl) (fun _ _ _ h => h) (.inl ⟨by rfl, fun W hW => exec_seqlr rfl rfl rfl (by simpa using HZP.out)⟩) hS0 ?_
          simp only [Act.put, List.setIfInBounds_toArray, List.set_cons_zero, List.set_cons_succ]
          refine alw_done rfl ?_
          refine NoPanic.normal ?_
          clear hS0
          try simp only [Act.put, List.setIfInBounds_toArray, List.set_cons_zero, List.set_cons_succ]
          by_cases hip : i < P
          · have HIP := Lib.hid hip
            have HKL := Lib.hid (show klt z.pre r.pre = true from Rt.pos_lo (l := l) (i := i) (by rw [HPL.out]; exact plain_at HZ.out) (by rw [← HP.out]; exact hip))
            clear hip
            go_upto_region 11 with fail
            refine wp_region_alw (fun W => Blk W y 49 #[.int .i64 m, .slice (some ⟨b1, 0, none⟩) n c] ∧ Blk W g3 38 r.cells.toArray ∧ W.cell? ⟨b1, 0 + i * 2 + 0, none⟩ = some (strV z.pre)) (by kernel_rfl) ?_
            have hS0 := And.intro HRW.out.blk.drew (And.intro HBW.out.drew HC.out)
            refine alw_take (i := 0) (v := .pointer (some ⟨y, 0, none⟩)) rfl (by kernel_rfl) (by kernel_rfl) (fun _ _ _ h => h) (.inl ⟨by rfl, fun W hW => exec_move rfl rfl⟩) hS0 ?_
            simp only [Act.put, List.setIfInBounds_toArray, List.set_cons_zero, List.set_cons_succ]
            refine alw_take (i := 1) (v := .pointer (some ⟨y, 0, none⟩)) rfl (by kernel_rfl) (by kernel_rfl) (fun _ _ _ h => h) (.inl ⟨by rfl, fun W hW => exec_nil rfl rfl⟩) hS0 ?_
            simp only [Act.put, List.setIfInBounds_toArray, List.set_cons_zero, List.set_cons_succ]
            refine alw_take (i := 2) (v := .pointer (some ⟨y, 1, none⟩)) rfl (by kernel_rfl) (by kernel_rfl) (fun _ _ _ h => h) (.inl ⟨by rfl, fun W hW => exec_field (off := 0) (d := 1) rfl rfl (by kernel_rfl)⟩) hS0 ?_
            simp only [Act.put, List.setIfInBounds_toArray, List.set_cons_zero, List.set_cons_succ]
            refine alw_take (i := 3) (v := .slice (some ⟨b1, 0, none⟩) n c) rfl (by kernel_rfl) (by kernel_rfl) (fun _ _ _ h => h) (.inl ⟨by rfl, fun W hW => exec_load1 rfl rfl (by kernel_rfl) (hW.1.cell 1)⟩) hS0 ?_
            simp only [Act.put, List.setIfInBounds_toArray, List.set_cons_zero, List.set_cons_succ]
            refine alw_take (i := 4) (v := .int .i64 (i : Int)) rfl (by kernel_rfl) (by kernel_rfl) (fun _ _ _ h => h) (.inl ⟨by rfl, fun W hW => exec_move rfl rfl⟩) hS0 ?_
            simp only [Act.put, List.setIfInBounds_toArray, List.set_cons_zero, List.set_cons_succ]
            refine alw_take (i := 5) (v := .pointer (some ⟨b1, 0 + i * 2, none⟩)) rfl (by kernel_rfl) (by kernel_rfl) (fun _ _ _ h => h) (.inl ⟨by rfl, fun W hW => gx_iaddr (i := i) (sz := 2) rfl rfl rfl Try.underlying22 size_rt HLT.out rfl⟩) hS0 ?_
            simp only [Act.put, List.setIfInBounds_toArray, List.set_cons_zero, List.set_cons_succ]
            refine alw_take (i := 6) (v := .pointer (some ⟨b1, 0 + i * 2 + 0, none⟩)) rfl (by kernel_rfl) (by kernel_rfl) (fun _ _ _ h => h) (.inl ⟨by rfl, fun W hW => exec_field (off := 0 + i * 2) (d := 0) rfl rfl (by kernel_rfl)⟩) hS0 ?_
            simp only [Act.put, List.setIfInBounds_toArray, List.set_cons_zero, List.set_cons_succ]
            refine alw_take (i := 7) (v := strV z.pre) rfl (by kernel_rfl) (by kernel_rfl) (fun _ _ _ h => h) (.inl ⟨by rfl, fun W hW => exec_load1 rfl rfl (by kernel_rfl) hW.2.2⟩) hS0 ?_
            simp only [Act.put, List.setIfInBounds_toArray, List.set_cons_zero, List.set_cons_succ]
            refine alw_take (i := 8) (v := .pointer (some ⟨g3, 0, none⟩)) rfl (by kernel_rfl) (by kernel_rfl) (fun _ _ _ h => h) (.inl ⟨by rfl, fun W hW => exec_field (off := 0) (d := 0) rfl rfl (by kernel_rfl)⟩) hS0 ?_
            simp only [Act.put, List.setIfInBounds_toArray, List.set_cons_zero, List.set_cons_succ]
            refine alw_take (i := 9) (v := strV r.pre) rfl (by kernel_rfl) (by kernel_rfl) (fun _ _ _ h => h) (.inl ⟨by rfl, fun W hW => exec_load1 rfl rfl (by kernel_rfl) (hW.2.1.cell 0)⟩) hS0 ?_
            simp only [Act.put, List.setIfInBounds_toArray, List.set_cons_zero, List.set_cons_succ]
            refine alw_take (i := 10) (v := .bool true) rfl (by kernel_rfl) (by kernel_rfl) (fun _ _ _ h => h) (.inl ⟨by rfl, fun W hW => exec_slss rfl rfl rfl HKL.out⟩) hS0 ?_
            simp only [Act.put, List.setIfInBounds_toArray, List.set_cons_zero, List.set_cons_succ]
            refine alw_done rfl ?_
            refine NoPanic.normal ?_
            clear hS0
            try simp only [Act.put, List.setIfInBounds_toArray, List.set_cons_zero, List.set_cons_succ]
            go_upto_region 12 with fail
            refine wp_region_lit ?_
            refine wpList_run (v := .int .i64 (i : Int)) (wanted_none rfl) (exec_move rfl rfl) ?_
            simp only [Act.put, List.setIfInBounds_toArray, List.set_cons_zero, List.set_cons_succ]
            refine wpList_run (v := .int .i64 ((i + 1 : Nat) : Int)) (wanted_none rfl) (ix_add rfl rfl rfl (by omega) (by omega)) ?_
            simp only [Act.put, List.setIfInBounds_toArray, List.set_cons_zero, List.set_cons_succ]
            refine wpList_run (v := .int .i64 ((i + 1 : Nat) : Int)) (wanted_none rfl) (gx_assign rfl rfl) ?_
            simp only [Act.put, List.setIfInBounds_toArray, List.set_cons_zero, List.set_cons_succ]
            go_upto_region 8 with fail
            refine wp_region_lit ?_
            refine wpList_run (v := .int .i64 (i : Int)) (wanted_none rfl) (exec_move rfl rfl) ?_
            simp only [Act.put, List.setIfInBounds_toArray, List.set_cons_zero, List.set_cons_succ]
            refine wpList_run (v := .int .i64 ((i + 1 : Nat) : Int)) (wanted_none rfl) (ix_add rfl rfl rfl (by omega) (by omega)) ?_
            simp only [Act.put, List.setIfInBounds_toArray, List.set_cons_zero, List.set_cons_succ]
            refine wpList_run (v := .int .i64 ((i + 1 : Nat) : Int)) (wanted_none rfl) (gx_assign rfl rfl) ?_
            simp only [Act.put, List.setIfInBounds_toArray, List.set_cons_zero, List.set_cons_succ]
            go_wp2_with fail
            go_roundg (n - (i + 1))
            case measure => have := HGK.out; have := HLT.out; omega
            case rel => exact ⟨i + 1, rfl, by rw [Nat.min_eq_left (show i + 1 ≤ P from HIP.out)], by have := HLT.out; omega, fun j x hj hx => by
                rcases Nat.lt_or_ge j i with h | h
                · exact HNE.out j x h hx
                · obtain rfl : j = i := by omega
                  have e := HZ.out
                  rw [hx] at e
                  rw [Option.some.inj e]
                  exact HZP.out, HTR.out.drew.drew⟩
          · have HIP := Lib.hid hip
            have HKL := Lib.hid (show klt z.pre r.pre = false from Rt.pos_hi (l := l) (i := i) HS.out (by rw [HPL.out]; exact plain_at HZ.out) (by rw [← HP.out]; omega))
            clear hip
            go_upto_region 11 with fail
            refine wp_region_alw (fun W => Blk W y 49 #[.int .i64 m, .slice (some ⟨b1, 0, none⟩) n c] ∧ Blk W g3 38 r.cells.toArray ∧ W.cell? ⟨b1, 0 + i * 2 + 0, none⟩ = some (strV z.pre)) (by kernel_rfl) ?_
            have hS0 := And.intro HRW.out.blk.drew (And.intro HBW.out.drew HC.out)
            refine alw_take (i := 0) (v := .pointer (some ⟨y, 0, none⟩)) rfl (by kernel_rfl) (by kernel_rfl) (fun _ _ _ h => h) (.inl ⟨by rfl, fun W hW => exec_move rfl rfl⟩) hS0 ?_
            simp only [Act.put, List.setIfInBounds_toArray, List.set_cons_zero, List.set_cons_succ]
            refine alw_take (i := 1) (v := .pointer (some ⟨y, 0, none⟩)) rfl (by kernel_rfl) (by kernel_rfl) (fun _ _ _ h => h) (.inl ⟨by rfl, fun W hW => exec_nil rfl rfl⟩) hS0 ?_
            simp only [Act.put, List.setIfInBounds_toArray, List.set_cons_zero, List.set_cons_succ]
            refine alw_take (i := 2) (v := .pointer (some ⟨y, 1, none⟩)) rfl (by kernel_rfl) (by kernel_rfl) (fun _ _ _ h => h) (.inl ⟨by rfl, fun W hW => exec_field (off := 0) (d := 1) rfl rfl (by kernel_rfl)⟩) hS0 ?_
            simp only [Act.put, List.setIfInBounds_toArray, List.set_cons_zero, List.set_cons_succ]
            refine alw_take (i := 3) (v := .slice (some ⟨b1, 0, none⟩) n c) rfl (by kernel_rfl) (by kernel_rfl) (fun _ _ _ h => h) (.inl ⟨by rfl, fun W hW => exec_load1 rfl rfl (by kernel_rfl) (hW.1.cell 1)⟩) hS0 ?_
            simp only [Act.put, List.setIfInBounds_toArray, List.set_cons_zero, List.set_cons_succ]
            refine alw_take (i := 4) (v := .int .i64 (i : Int)) rfl (by kernel_rfl) (by kernel_rfl) (fun _ _ _ h => h) (.inl ⟨by rfl, fun W hW => exec_move rfl rfl⟩) hS0 ?_
            simp only [Act.put, List.setIfInBounds_toArray, List.set_cons_zero, List.set_cons_succ]
            refine alw_take (i := 5) (v := .pointer (some ⟨b1, 0 + i * 2, none⟩)) rfl (by kernel_rfl) (by kernel_rfl) (fun _ _ _ h => h) (.inl ⟨by rfl, fun W hW => gx_iaddr (i := i) (sz := 2) rfl rfl rfl Try.underlying22 size_rt HLT.out rfl⟩) hS0 ?_
            simp only [Act.put, List.setIfInBounds_toArray, List.set_cons_zero, List.set_cons_succ]
            refine alw_take (i := 6) (v := .pointer (some ⟨b1, 0 + i * 2 + 0, none⟩)) rfl (by kernel_rfl) (by kernel_rfl) (fun _ _ _ h => h) (.inl ⟨by rfl, fun W hW => exec_field (off := 0 + i * 2) (d := 0) rfl rfl (by kernel_rfl)⟩) hS0 ?_
            simp only [Act.put, List.setIfInBounds_toArray, List.set_cons_zero, List.set_cons_succ]
            refine alw_take (i := 7) (v := strV z.pre) rfl (by kernel_rfl) (by kernel_rfl) (fun _ _ _ h => h) (.inl ⟨by rfl, fun W hW => exec_load1 rfl rfl (by kernel_rfl) hW.2.2⟩) hS0 ?_
            simp only [Act.put, List.setIfInBounds_toArray, List.set_cons_zero, List.set_cons_succ]
            refine alw_take (i := 8) (v := .pointer (some ⟨g3, 0, none⟩)) rfl (by kernel_rfl) (by kernel_rfl) (fun _ _ _ h => h) (.inl ⟨by rfl, fun W hW => exec_field (off := 0) (d := 0) rfl rfl (by kernel_rfl)⟩) hS0 ?_
            simp only [Act.put, List.setIfInBounds_toArray, List.set_cons_zero, List.set_cons_succ]
            refine alw_take (i := 9) (v := strV r.pre) rfl (by kernel_rfl) (by kernel_rfl) (fun _ _ _ h => h) (.inl ⟨by rfl, fun W hW => exec_load1 rfl rfl (by kernel_rfl) (hW.2.1.cell 0)⟩) hS0 ?_
            simp only [Act.put, List.setIfInBounds_toArray, List.set_cons_zero, List.set_cons_succ]
            refine alw_take (i := 10) (v := .bool false) rfl (by kernel_rfl) (by kernel_rfl) (fun _ _ _ h => h) (.inl ⟨by rfl, fun W hW => exec_slss rfl rfl rfl HKL.out⟩) hS0 ?_
            simp only [Act.put, List.setIfInBounds_toArray, List.set_cons_zero, List.set_cons_succ]
            refine alw_done rfl ?_
            refine NoPanic.normal ?_
            clear hS0
            try simp only [Act.put, List.setIfInBounds_toArray, List.set_cons_zero, List.set_cons_succ]
            go_upto_region 8 with fail
            refine wp_region_lit ?_
            refine wpList_run (v := .int .i64 (i : Int)) (wanted_none rfl) (exec_move rfl rfl) ?_
            simp only [Act.put, List.setIfInBounds_toArray, List.set_cons_zero, List.set_cons_succ]
            refine wpList_run (v := .int .i64 ((i + 1 : Nat) : Int)) (wanted_none rfl) (ix_add rfl rfl rfl (by omega) (by omega)) ?_
            simp only [Act.put, List.setIfInBounds_toArray, List.set_cons_zero, List.set_cons_succ]
            refine wpList_run (v := .int .i64 ((i + 1 : Nat) : Int)) (wanted_none rfl) (gx_assign rfl rfl) ?_
            simp only [Act.put, List.setIfInBounds_toArray, List.set_cons_zero, List.set_cons_succ]
            go_wp2_with fail
            go_roundg (n - (i + 1))
            case measure => have := HGK.out; have := HLT.out; omega
            case rel => exact ⟨i + 1, rfl, by rw [HQ.out]; have := HIP.out; rw [Nat.min_eq_right (by omega), Nat.min_eq_right (by omega)], by have := HLT.out; omega, fun j x hj hx => by
                rcases Nat.lt_or_ge j i with h | h
                · exact HNE.out j x h hx
                · obtain rfl : j = i := by omega
                  have e := HZ.out
                  rw [hx] at e
                  rw [Option.some.inj e]
                  exact HZP.out, HTR.out.drew.drew⟩
      · obtain rfl : n = i := by have := HGK.out; omega
        obtain rfl : q = P := by have := HQ.out; have := HPN.out; omega
        have HNH := Lib.hid (show ¬ Rt.has r.pre l from by rw [HPL.out]; exact not_has fun i x hi hx => HNE.out i x (by have := HN.out; omega) hx)
        clear hlt
        go_upto_region 7 with fail
        refine wp_region_lit ?_
        refine wpList_run (v := .int .i64 (n : Int)) (wanted_none rfl) (exec_move rfl rfl) ?_
        simp only [Act.put, List.setIfInBounds_toArray, List.set_cons_zero, List.set_cons_succ]
        refine wpList_run (v := .pointer (some ⟨y, 0, none⟩)) (wanted_none rfl) (exec_move rfl rfl) ?_
        simp only [Act.put, List.setIfInBounds_toArray, List.set_cons_zero, List.set_cons_succ]
        refine wpList_run (v := .pointer (some ⟨y, 0, none⟩)) (wanted_none rfl) (exec_nil rfl rfl) ?_
        simp only [Act.put, List.setIfInBounds_toArray, List.set_cons_zero, List.set_cons_succ]
        refine wpList_run (v := .pointer (some ⟨y, 1, none⟩)) (wanted_none rfl) (exec_field (off := 0) (d := 1) rfl rfl (by kernel_rfl)) ?_
        simp only [Act.put, List.setIfInBounds_toArray, List.set_cons_zero, List.set_cons_succ]
        refine wpList_run (v := .slice A n c) (wanted_none rfl) (exec_load1 rfl rfl (by kernel_rfl) (HRW.out.blk.cell 1)) ?_
        simp only [Act.put, List.setIfInBounds_toArray, List.set_cons_zero, List.set_cons_succ]
        refine wpList_run (v := .int .i64 (n : Int)) (wanted_none rfl) (gx_len rfl rfl Try.underlying22) ?_
        simp only [Act.put, List.setIfInBounds_toArray, List.set_cons_zero, List.set_cons_succ]
        refine wpList_run (v := .bool false) (wanted_none rfl) (ix_lss rfl rfl rfl (decide_eq_false (by omega))) ?_
        simp only [Act.put, List.setIfInBounds_toArray, List.set_cons_zero, List.set_cons_succ]
        by_cases h32 : n = 32
        · have HE := Lib.hid (show Rt.addE m l r.pre r.to_ = 3 from by unfold Rt.addE; rw [if_neg (by rw [HPO.out]; decide), if_neg (not_not_intro HTOK.out), if_neg HNH.out, if_pos (by rw [HPL.out, List.length_map, ← HN.out]; exact h32)])
          have y4 : (n : Int) = 32 := by omega
          have HY4 := Lib.hid y4
          clear h32 y4
          go_upto_region 13 with fail
          refine wp_region_lit ?_
          refine wpList_run (v := .pointer (some ⟨y, 0, none⟩)) (wanted_none rfl) (exec_move rfl rfl) ?_
          simp only [Act.put, List.setIfInBounds_toArray, List.set_cons_zero, List.set_cons_succ]
          refine wpList_run (v := .pointer (some ⟨y, 0, none⟩)) (wanted_none rfl) (exec_nil rfl rfl) ?_
          simp only [Act.put, List.setIfInBounds_toArray, List.set_cons_zero, List.set_cons_succ]
          refine wpList_run (v := .pointer (some ⟨y, 1, none⟩)) (wanted_none rfl) (exec_field (off := 0) (d := 1) rfl rfl (by kernel_rfl)) ?_
          simp only [Act.put, List.setIfInBounds_toArray, List.set_cons_zero, List.set_cons_succ]
          refine wpList_run (v := .slice A n c) (wanted_none rfl) (exec_load1 rfl rfl (by kernel_rfl) (HRW.out.blk.cell 1)) ?_
          simp only [Act.put, List.setIfInBounds_toArray, List.set_cons_zero, List.set_cons_succ]
          refine wpList_run (v := .int .i64 (n : Int)) (wanted_none rfl) (gx_len rfl rfl Try.underlying22) ?_
          simp only [Act.put, List.setIfInBounds_toArray, List.set_cons_zero, List.set_cons_succ]
          refine wpList_run (v := .bool true) (wanted_none rfl) (ix_eql rfl rfl rfl (decide_eq_true HY4.out)) ?_
          simp only [Act.put, List.setIfInBounds_toArray, List.set_cons_zero, List.set_cons_succ]
          go_upto_region 14 with fail
          refine wp_region_lit ?_
          refine wpList_run (v := .int .i64 3) (wanted_none rfl) (gx_assign rfl rfl) ?_
          simp only [Act.put, List.setIfInBounds_toArray, List.set_cons_zero, List.set_cons_succ]
          go_wp2_with fail
          go_ret
          exact ⟨by rw [HE.out]; rfl, by rw [Rt.addL_no (by rw [HE.out]; decide)]; exact ⟨_, _, HRW.out, HPL.out.symm, ((HT2.out.trans HTR.out fun _ _ e => e)).mono fun _ _ e => e.elim, fun b hb => .inl hb⟩⟩
        · have HE := Lib.hid (show Rt.addE m l r.pre r.to_ = 0 from Rt.addE_ok HPO.out HTOK.out HNH.out (by rw [HPL.out, List.length_map, ← HN.out]; exact h32))
          have HY4 := Lib.hid (show ¬ (n : Int) = 32 from by omega)
          have yn31 : (n : Int) < 32 := by omega
          clear h32
          obtain ⟨A7, c7, w7, hrun, hrow, ht7⟩ := copy_rws elmRt (ty := 22) (c := c) (rws_to (e := q) (HRW.out.own.row.rws (by rw [List.length_map, ← HN.out]; omega) (by decide)) HPN.out) (Fit.sub HRW.out.own.row.1 fun r hr => List.mem_of_mem_take hr) HCZ.out (by have := HPN.out; omega)
          have HRUN7 := Lib.hid hrun
          have HT7 := Lib.hid ht7
          have HOW7 := Lib.hid (show OwnR w7 wr.heap.size B (.slice A7 q c7) (vs.take q) from ⟨by rw [List.map_take]; exact hrow, fun x hx => Its.turn (HRW.out.own.its x (List.mem_of_mem_take hx)) ht7 fun _ _ e => e⟩)
          have HB7 := Lib.hid (HBW.out.turn ht7 fun e => e)
          clear hrun hrow ht7
          go_upto_region 13 with fail
          refine wp_region_lit ?_
          refine wpList_run (v := .pointer (some ⟨y, 0, none⟩)) (wanted_none rfl) (exec_move rfl rfl) ?_
          simp only [Act.put, List.setIfInBounds_toArray, List.set_cons_zero, List.set_cons_succ]
          refine wpList_run (v := .pointer (some ⟨y, 0, none⟩)) (wanted_none rfl) (exec_nil rfl rfl) ?_
          simp only [Act.put, List.setIfInBounds_toArray, List.set_cons_zero, List.set_cons_succ]
          refine wpList_run (v := .pointer (some ⟨y, 1, none⟩)) (wanted_none rfl) (exec_field (off := 0) (d := 1) rfl rfl (by kernel_rfl)) ?_
          simp only [Act.put, List.setIfInBounds_toArray, List.set_cons_zero, List.set_cons_succ]
          refine wpList_run (v := .slice A n c) (wanted_none rfl) (exec_load1 rfl rfl (by kernel_rfl) (HRW.out.blk.cell 1)) ?_
          simp only [Act.put, List.setIfInBounds_toArray, List.set_cons_zero, List.set_cons_succ]
          refine wpList_run (v := .int .i64 (n : Int)) (wanted_none rfl) (gx_len rfl rfl Try.underlying22) ?_
          simp only [Act.put, List.setIfInBounds_toArray, List.set_cons_zero, List.set_cons_succ]
          refine wpList_run (v := .bool false) (wanted_none rfl) (ix_eql rfl rfl rfl (decide_eq_false HY4.out)) ?_
          simp only [Act.put, List.setIfInBounds_toArray, List.set_cons_zero, List.set_cons_succ]
          go_upto_region 15 with fail
          refine wp_region_lit ?_
          refine wpList_run (v := .slice (some ⟨wr.heap.size, 0, none⟩) 0 0) (w' := wr.alloc (.cells #[] 38)) (wanted_none rfl) (bx_slice0 rfl (build0T _)) ?_
          simp only [Act.put, List.setIfInBounds_toArray, List.set_cons_zero, List.set_cons_succ]
          refine wpList_run (v := .pointer (some ⟨y, 0, none⟩)) (wanted_none rfl) (exec_move rfl rfl) ?_
          simp only [Act.put, List.setIfInBounds_toArray, List.set_cons_zero, List.set_cons_succ]
          refine wpList_run (v := .pointer (some ⟨y, 0, none⟩)) (wanted_none rfl) (exec_nil rfl rfl) ?_
          simp only [Act.put, List.setIfInBounds_toArray, List.set_cons_zero, List.set_cons_succ]
          refine wpList_run (v := .pointer (some ⟨y, 1, none⟩)) (wanted_none rfl) (exec_field (off := 0) (d := 1) rfl rfl (by kernel_rfl)) ?_
          simp only [Act.put, List.setIfInBounds_toArray, List.set_cons_zero, List.set_cons_succ]
          refine wpList_run (v := .slice A n c) (wanted_none rfl) (exec_load1 rfl rfl (by kernel_rfl) ((HRW.out.blk.alloc _).cell 1)) ?_
          simp only [Act.put, List.setIfInBounds_toArray, List.set_cons_zero, List.set_cons_succ]
          refine wpList_run (v := .int .i64 (q : Int)) (wanted_none rfl) (exec_move rfl rfl) ?_
          simp only [Act.put, List.setIfInBounds_toArray, List.set_cons_zero, List.set_cons_succ]
          refine wpList_run (v := .slice A q c) (wanted_none rfl) (exec_slice rfl rfl rfl rfl rfl (sl_to elmRt A n c q (by have := HPN.out; have := HLC.out; omega) _)) ?_
          simp only [Act.put, List.setIfInBounds_toArray, List.set_cons_zero, List.set_cons_succ]
          refine wpList_run (v := .slice A7 q c7) (w' := w7) (wanted_none rfl) (exec_append rfl rfl rfl HRUN7.out) ?_
          simp only [Act.put, List.setIfInBounds_toArray, List.set_cons_zero, List.set_cons_succ]
          refine wpList_run (v := .slice A7 q c7) (wanted_none rfl) (gx_assign rfl rfl) ?_
          simp only [Act.put, List.setIfInBounds_toArray, List.set_cons_zero, List.set_cons_succ]
          go_upto_region 16 with fail
          refine wp_region_alw (fun W => Blk W g3 38 r.cells.toArray) (by kernel_rfl) ?_
          have hS0 := HB7.out
          refine alw_take (i := 0) (v := .slice A7 q c7) rfl (by kernel_rfl) (by kernel_rfl) (fun _ _ _ h => h) (.inl ⟨by rfl, fun W hW => exec_move rfl rfl⟩) hS0 ?_
          simp only [Act.put, List.setIfInBounds_toArray, List.set_cons_zero, List.set_cons_succ]
          refine alw_take (i := 1) (v := .pointer (some ⟨g3, 0, none⟩)) rfl (by kernel_rfl) (by kernel_rfl) (fun _ _ _ h => h) (.inl ⟨by rfl, fun W hW => exec_field (off := 0) (d := 0) rfl rfl (by kernel_rfl)⟩) hS0 ?_
          simp only [Act.put, List.setIfInBounds_toArray, List.set_cons_zero, List.set_cons_succ]
          refine alw_take (i := 2) (v := strV r.pre) rfl (by kernel_rfl) (by kernel_rfl) (fun _ _ _ h => h) (.inl ⟨by rfl, fun W hW => exec_load1 rfl rfl (by kernel_rfl) (hW.cell 0)⟩) hS0 ?_
          simp only [Act.put, List.setIfInBounds_toArray, List.set_cons_zero, List.set_cons_succ]
          refine alw_take (i := 4) (v := .pointer (some ⟨g3, 1, none⟩)) rfl (by kernel_rfl) (by kernel_rfl) (fun _ _ _ h => h) (.inl ⟨by rfl, fun W hW => exec_field (off := 0) (d := 1) rfl rfl (by kernel_rfl)⟩) hS0 ?_
          simp only [Act.put, List.setIfInBounds_toArray, List.set_cons_zero, List.set_cons_succ]
          refine alw_take (i := 5) (v := .slice r.A r.n r.c) rfl (by kernel_rfl) (by kernel_rfl) (fun _ _ _ h => h) (.inl ⟨by rfl, fun W hW => exec_load1 rfl rfl (by kernel_rfl) (hW.cell 1)⟩) hS0 ?_
          simp only [Act.put, List.setIfInBounds_toArray, List.set_cons_zero, List.set_cons_succ]
          obtain ⟨w8, hw8⟩ : ∃ v, v = w7.drew := ⟨_, rfl⟩
          rw [← hw8]
          have HT8 := Lib.hid (show Turn nowhere w7 w8 from by rw [hw8]; exact (Turn.refl _ _).drew)
          have HTW8 := Lib.hid ((HTR.out.trans HT7.out fun _ _ e => e).trans HT8.out fun _ _ e => e)
          obtain ⟨A9, c9, w9, hrun, hrow, ht9, hok⟩ := copyI (HRO2.out.still HTW8.out)
          have HRUN9 := Lib.hid hrun
          have HT9 := Lib.hid ht9
          have HTW9 := Lib.hid ((HT7.out.trans HT8.out fun _ _ e => e).trans ht9 fun _ _ e => e)
          obtain ⟨nv, hnv⟩ : ∃ x, x = RtV.mk r.pre A9 r.n c9 r.to_ := ⟨_, rfl⟩
          rw [← hnv] at hok
          have HNB := Lib.hid (show ∀ b, (Value.slice nv.A nv.n nv.c).ownBlock = some b → w.heap.size ≤ b from fun b hb => by
            rw [hnv] at hb
            exact Nat.le_trans (Nat.le_trans HT2.out.size HTW8.out.size) (hrow.lt hb).1)
          have hsz : B ≤ w8.heap.size := Nat.le_trans HB.out (Nat.le_trans HT2.out.size HTW8.out.size)
          obtain ⟨A10, c10, w10, hrun10, how10, ht10⟩ := OwnR.add (w := wr) (nv := nv) ((HOW7.out.still HT8.out).still ht9) HTW9.out (show (vs.take q).length = q from by rw [List.length_take]; have := HPN.out; have := HN.out; omega) ⟨hok, by rw [hnv]; exact hrow.less hsz⟩ (by have := HPN.out; omega)
          have HRUN10 := Lib.hid hrun10
          have HO10 := Lib.hid how10
          have HT10 := Lib.hid ht10
          have HNV := Lib.hid hnv
          have HBX := Lib.hid (show ∀ W : World, Turn nowhere w2 W → Blk W g3 38 r.cells.toArray from fun W ht => HB32.out.turn ht fun e => e)
          have HTX9 := Lib.hid (HTR.out.trans HTW9.out fun _ _ e => e)
          have HTX10 := Lib.hid (HTR.out.trans ht10 fun _ _ e => e)
          clear hrun hrow ht9 hok hw8 hS0 hnv hsz hrun10 how10 ht10
          refine alw_step (i := 3) (by kernel_rfl) rfl rfl ?_
          intro K1 HK1
          refine wp_run (v := .slice (some ⟨w8.heap.size, 0, none⟩) 0 0) (w' := w8.alloc (.cells #[] 3)) (bx_slice0 rfl (build0I _)) ?_
          refine HK1.out _ _ ⟨HBX.out _ (HTW8.out.alloc _), ?_⟩
          clear HK1
          try simp only [Act.put, List.setIfInBounds_toArray, List.set_cons_zero, List.set_cons_succ]
          refine alw_step (i := 6) (by kernel_rfl) rfl rfl ?_
          intro K1 HK1
          refine wp_run (v := .slice A9 r.n c9) (w' := w9) (exec_append rfl rfl rfl HRUN9.out) ?_
          refine HK1.out _ _ ⟨HBX.out _ HTX9.out, ?_⟩
          clear HK1
          try simp only [Act.put, List.setIfInBounds_toArray, List.set_cons_zero, List.set_cons_succ]
          have hS0 := HBX.out _ HTX9.out
          refine alw_take (i := 7) (v := .agg nv.cells.toArray) rfl (by kernel_rfl) (by kernel_rfl) (fun _ _ _ h => h) (.inl ⟨by rfl, fun W hW => by rw [HNV.out]; exact gx_build2 rfl rfl rfl (buildRt r.pre A9 r.n c9 _)⟩) hS0 ?_
          simp only [Act.put, List.setIfInBounds_toArray, List.set_cons_zero, List.set_cons_succ]
          clear hS0
          refine alw_step (i := 8) (by kernel_rfl) rfl rfl ?_
          intro K1 HK1
          refine wp_run (v := .slice (some ⟨w9.heap.size, 0, none⟩) 1 1) (w' := w9.alloc (.cells nv.cells.toArray 38)) (exec_buildSlice1 rfl rfl (build_one elmRt nv.cells rfl (by decide) _ rfl _)) ?_
          refine HK1.out _ _ ⟨HBX.out _ (HTX9.out.alloc _), ?_⟩
          clear HK1
          try simp only [Act.put, List.setIfInBounds_toArray, List.set_cons_zero, List.set_cons_succ]
          refine alw_step (i := 9) (by kernel_rfl) rfl rfl ?_
          intro K1 HK1
          refine wp_run (v := .slice A10 (q + 1) c10) (w' := w10) (exec_append rfl rfl rfl HRUN10.out) ?_
          refine HK1.out _ _ ⟨HBX.out _ HTX10.out, ?_⟩
          clear HK1
          try simp only [Act.put, List.setIfInBounds_toArray, List.set_cons_zero, List.set_cons_succ]
          have hS0 := HBX.out _ HTX10.out
          refine alw_take (i := 10) (v := .slice A10 (q + 1) c10) rfl (by kernel_rfl) (by kernel_rfl) (fun _ _ _ h => h) (.inl ⟨by rfl, fun W hW => gx_assign rfl rfl⟩) hS0 ?_
          simp only [Act.put, List.setIfInBounds_toArray, List.set_cons_zero, List.set_cons_succ]
          refine alw_done rfl ?_
          refine NoPanic.normal ?_
          clear hS0
          try simp only [Act.put, List.setIfInBounds_toArray, List.set_cons_zero, List.set_cons_succ]
          have HR10 := Lib.hid (HRW.out.still HT10.out)
          obtain ⟨A11, c11, w11, hrun, how11, ht11⟩ := OwnR.more (w := wr) (ys := vs.drop q) (c2 := c - q) HO10.out HT10.out (show (vs.take q ++ [nv]).length = q + 1 from by rw [List.length_append, List.length_take]; have := HPN.out; have := HN.out; show min q vs.length + 1 = _; omega) (by rw [List.map_drop]; exact rws_from (d := q) (HR10.out.own.row.rws (by rw [List.length_map, ← HN.out]; omega) (by decide)) HPN.out HLC.out) (fromK_nil HCZ.out) (fun x hx => HR10.out.own.its x (List.mem_of_mem_drop hx)) (by have := HPN.out; omega)
          obtain ⟨n11, hn11⟩ : ∃ x, x = q + 1 + (n - q) := ⟨_, rfl⟩
          rw [← hn11] at hrun how11
          have HRUN11 := Lib.hid hrun
          have HO11 := Lib.hid how11
          have HT11 := Lib.hid ht11
          have HBY := Lib.hid (HRW.out.blk.turn ht11 fun e => e)
          clear hrun how11 ht11 hn11
          go_upto_region 17 with fail
          refine wp_region_lit ?_
          refine wpList_run (v := .pointer (some ⟨y, 0, none⟩)) (wanted_none rfl) (exec_move rfl rfl) ?_
          simp only [Act.put, List.setIfInBounds_toArray, List.set_cons_zero, List.set_cons_succ]
          refine wpList_run (v := .slice A10 (q + 1) c10) (wanted_none rfl) (exec_move rfl rfl) ?_
          simp only [Act.put, List.setIfInBounds_toArray, List.set_cons_zero, List.set_cons_succ]
          refine wpList_run (v := .pointer (some ⟨y, 0, none⟩)) (wanted_none rfl) (exec_move rfl rfl) ?_
          simp only [Act.put, List.setIfInBounds_toArray, List.set_cons_zero, List.set_cons_succ]
          refine wpList_run (v := .pointer (some ⟨y, 0, none⟩)) (wanted_none rfl) (exec_nil rfl rfl) ?_
          simp only [Act.put, List.setIfInBounds_toArray, List.set_cons_zero, List.set_cons_succ]
          refine wpList_run (v := .pointer (some ⟨y, 1, none⟩)) (wanted_none rfl) (exec_field (off := 0) (d := 1) rfl rfl (by kernel_rfl)) ?_
          simp only [Act.put, List.setIfInBounds_toArray, List.set_cons_zero, List.set_cons_succ]
          refine wpList_run (v := .slice A n c) (wanted_none rfl) (exec_load1 rfl rfl (by kernel_rfl) (HR10.out.blk.cell 1)) ?_
          simp only [Act.put, List.setIfInBounds_toArray, List.set_cons_zero, List.set_cons_succ]
          refine wpList_run (v := .int .i64 (q : Int)) (wanted_none rfl) (exec_move rfl rfl) ?_
          simp only [Act.put, List.setIfInBounds_toArray, List.set_cons_zero, List.set_cons_succ]
          refine wpList_run (v := .slice (fromK 2 A c q) (n - q) (c - q)) (wanted_none rfl) (exec_slice rfl rfl rfl rfl rfl (sl_from elmRt A n c q HPN.out HLC.out _)) ?_
          simp only [Act.put, List.setIfInBounds_toArray, List.set_cons_zero, List.set_cons_succ]
          refine wpList_run (v := .slice A11 n11 c11) (w' := w11) (wanted_none rfl) (exec_append rfl rfl rfl HRUN11.out) ?_
          simp only [Act.put, List.setIfInBounds_toArray, List.set_cons_zero, List.set_cons_succ]
          refine wpList_run (v := .pointer (some ⟨y, 0, none⟩)) (wanted_none rfl) (exec_nil rfl rfl) ?_
          simp only [Act.put, List.setIfInBounds_toArray, List.set_cons_zero, List.set_cons_succ]
          refine wpList_run (v := .pointer (some ⟨y, 1, none⟩)) (wanted_none rfl) (exec_field (off := 0) (d := 1) rfl rfl (by kernel_rfl)) ?_
          simp only [Act.put, List.setIfInBounds_toArray, List.set_cons_zero, List.set_cons_succ]
          refine wpList_storeU 1 (.slice A11 n11 c11) (wanted_none rfl) 22 _ _ rfl HBY.out rfl rfl (by show 1 < 2; omega) (slice_one HO11.out.row) size_sT ?_
          intro w12 hb12 ht12
          simp only [Act.put, List.setIfInBounds_toArray, List.set_cons_zero, List.set_cons_succ]
          have hBw : B ≤ wr.heap.size := Nat.le_trans HB.out (Nat.le_trans HT2.out.size HTR.out.size)
          have how12 := HO11.out.only HBY.out (by decide) (by decide) ht12
          have HGN := Lib.hid (show ∀ b, RefG y (.slice A11 n11 c11) (vs.take q ++ [nv] ++ vs.drop q) b → RefG y (.slice A n c) vs b ∨ w.heap.size ≤ b from fun b hb => by
            rcases hb with hb | hb | ⟨x, hx, hb⟩
            · exact .inl (.inl hb)
            · exact .inr (Nat.le_trans (Nat.le_trans HT2.out.size HTR.out.size) (how12.row.lt hb).1)
            · rcases List.mem_append.1 hx with hx | hx
              · rcases List.mem_append.1 hx with hx | hx
                · exact .inl (.inr (.inr ⟨x, List.mem_of_mem_take hx, hb⟩))
                · obtain rfl : x = nv := by simpa using hx
                  exact .inr (HNB.out b hb)
              · exact .inl (.inr (.inr ⟨x, List.mem_of_mem_drop hx, hb⟩)))
          have HX := Lib.hid (show RefTo w B y m (.slice A n c) vs (Rt.addL m l r.pre r.to_) w12 from ⟨_, _, ⟨hb12, ⟨how12.row.less hBw, how12.its⟩⟩, by
            rw [Rt.addL_ok HE.out]
            unfold Rt.ins
            rw [← HP.out, HPL.out, HNV.out]
            simp [List.map_append, List.map_take, List.map_drop]
            rfl, (((HT2.out.trans HTR.out fun _ _ e => e).trans HT11.out fun _ _ e => e).mono fun _ _ e => e.elim).trans ht12 fun _ _ e => e, HGN.out⟩)
          clear hb12 ht12 hBw how12
          go_upto_region 18 with fail
          refine wp_region_lit ?_
          refine wpList_run (v := .int .i64 0) (wanted_none rfl) (gx_assign rfl rfl) ?_
          simp only [Act.put, List.setIfInBounds_toArray, List.set_cons_zero, List.set_cons_succ]
          go_wp2_with fail
          go_ret
          exact ⟨by rw [HE.out]; rfl, HX.out⟩
    · have HE := Lib.hid (show Rt.addE m l r.pre r.to_ = 112 from by unfold Rt.addE; rw [if_neg (by rw [HPO.out]; decide), if_pos hto])
      rw [decide_eq_false hto]
      clear hto
      refine wpList_run (v := .bool true) (wanted_none rfl) (ix_not (b := false) rfl rfl) ?_
      simp only [Act.put, List.setIfInBounds_toArray, List.set_cons_zero, List.set_cons_succ]
      go_upto_region 4 with fail
      refine wp_region_lit ?_
      refine wpList_run (v := .int .i64 112) (wanted_none rfl) (gx_assign rfl rfl) ?_
      simp only [Act.put, List.setIfInBounds_toArray, List.set_cons_zero, List.set_cons_succ]
      go_wp2_with fail
      go_ret
      exact ⟨by rw [HE.out]; rfl, by rw [Rt.addL_no (by rw [HE.out]; decide)]; exact ⟨_, _, HR2.out, HPL.out.symm, (HT2.out).mono fun _ _ e => e.elim, fun b hb => .inl hb⟩⟩
end Go.Proofs.Ytihmpbilbnajpaa
