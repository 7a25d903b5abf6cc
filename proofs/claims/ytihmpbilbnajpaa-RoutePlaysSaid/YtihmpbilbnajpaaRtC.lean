/-
  Routes: whether two rows of routes are the same; routes of one's own: the walks. No conditions.
-/
import Derived.Test.YtihmpbilbnajpaaRtB
namespace Go.Proofs.Ytihmpbilbnajpaa
open Go.RowKit
open Ix
open Rt (R)
set_option linter.unusedVariables false
set_option linter.unusedSimpArgs false
theorem RtsAt.at_ {w : World} {A : Option Addr} {n : Nat} {vs : List RtV} (h : RtsAt w A n vs) (hn : 0 < n) : ∃ b off, A = some ⟨b, off, none⟩ ∧ ∀ i r, vs[i]? = some r → w.cell? ⟨b, off + i * 2 + 0, none⟩ = some (strV r.pre) ∧ w.cell? ⟨b, off + i * 2 + 1, none⟩ = some (.slice r.A r.n r.c) := by
  obtain ⟨b, off, e, hc⟩ := h.1.2.2.2 hn
  refine ⟨b, off, e, fun i r hr => ?_⟩
  have hm : (vs.map RtV.cells)[i]? = some r.cells := by rw [List.getElem?_map, hr]; rfl
  exact ⟨hc i _ hm 0 _ rfl, hc i _ hm 1 _ rfl⟩
set_option maxRecDepth 20000 in
set_option maxHeartbeats 4000000 in
theorem same_walk {w : World} {A A2 : Option Addr} {n c c2 : Nat} {vs us : List RtV} (ha : RtsAt w A n vs) (hb : RtsAt w A2 n us) (he : vs.map RtV.plain = us.map RtV.plain) :
    Calls Try.prog 22 #[.slice A n c, .slice A2 n c2] w fun e w' => e = .returned (.bool true) ∧ Turn nowhere w w' := by
  have HA := Lib.hid ha
  have HB := Lib.hid hb
  have HE := Lib.hid he
  have yn : (n : Int) ≤ 140737488355328 := by have := ha.1.2.2.1; omega
  clear ha hb he
  go_enter Try.func22, Try.ntmps22
  go_upto_region 0 with fail
  refine wp_region_lit ?_
  refine wpList_run (v := .bool false) (wanted_none rfl) (gx_assign rfl rfl) ?_
  simp only [Act.put, List.setIfInBounds_toArray, List.set_cons_zero, List.set_cons_succ]
  go_upto_region 1 with fail
  refine wp_region_lit ?_
  refine wpList_run (v := .slice A n c) (wanted_none rfl) (exec_move rfl rfl) ?_
  simp only [Act.put, List.setIfInBounds_toArray, List.set_cons_zero, List.set_cons_succ]
  refine wpList_run (v := .int .i64 (n : Int)) (wanted_none rfl) (gx_len rfl rfl Try.underlying22) ?_
  simp only [Act.put, List.setIfInBounds_toArray, List.set_cons_zero, List.set_cons_succ]
  refine wpList_run (v := .slice A2 n c2) (wanted_none rfl) (exec_move rfl rfl) ?_
  simp only [Act.put, List.setIfInBounds_toArray, List.set_cons_zero, List.set_cons_succ]
  refine wpList_run (v := .int .i64 (n : Int)) (wanted_none rfl) (gx_len rfl rfl Try.underlying22) ?_
  simp only [Act.put, List.setIfInBounds_toArray, List.set_cons_zero, List.set_cons_succ]
  refine wpList_run (v := .bool false) (wanted_none rfl) (ix_neq rfl rfl rfl (decide_eq_false (fun e => e rfl))) ?_
  simp only [Act.put, List.setIfInBounds_toArray, List.set_cons_zero, List.set_cons_succ]
  go_upto_region 3 with fail
  refine wp_region_lit ?_
  refine wpList_run (v := .int .i64 0) (wanted_none rfl) (gx_assign rfl rfl) ?_
  simp only [Act.put, List.setIfInBounds_toArray, List.set_cons_zero, List.set_cons_succ]
  go_wp2_with fail
  go_loopg [5, 6] n (fun gk iv bv wr => ∃ i : Nat, iv = .int .i64 (i : Int) ∧ i + gk = n ∧ Turn nowhere w wr)
  case atStart => exact ⟨0, rfl, by omega, Turn.refl _ _⟩
  obtain ⟨i, rfl, hgk, htr⟩ := hrel
  have HGK := Lib.hid hgk
  have HTR := Lib.hid htr
  have yi : (i : Int) ≤ (n : Int) := by omega
  clear hgk htr
  by_cases hlt : i < n
  · have HLT := Lib.hid hlt
    have y3 : (i : Int) < (n : Int) := by omega
    have HA1 := Lib.hid (HA.out.still HTR.out)
    have HB1 := Lib.hid (HB.out.still HTR.out)
    obtain ⟨b1, o1, e1, h1⟩ := HA1.out.at_ (by omega)
    obtain ⟨b2, o2, e2, h2⟩ := HB1.out.at_ (by omega)
    subst e1 e2
    obtain ⟨z, hz⟩ := getQ (l := vs) (i := i) (by have := HA.out.len; omega)
    obtain ⟨y, hy⟩ := getQ (l := us) (i := i) (by have := HB.out.len; omega)
    have hp : z.plain = y.plain := by
      have h := congrArg (fun l => l[i]?) HE.out
      simp only [List.getElem?_map, hz, hy, Option.map_some] at h
      exact Option.some.inj h
    have HP1 := Lib.hid (show z.pre = y.pre from congrArg Prod.fst hp)
    have HP2 := Lib.hid (show z.to_ = y.to_ from congrArg Prod.snd hp)
    have HC1 := Lib.hid (h1 i z hz)
    have HC2 := Lib.hid (h2 i y hy)
    have HIN := Lib.hid (show Calls Try.prog 20 #[.slice z.A z.n z.c, .slice y.A y.n y.c] wr.drew fun e w' => e = .returned (.bool true) ∧ Turn nowhere wr.drew w' from by
      have h := ints_walk (w := wr.drew) (c := z.c) (c2 := y.c) ((HA1.out.2 z (List.mem_of_getElem? hz)).ia.still (Turn.refl _ _).drew) ((HB1.out.2 y (List.mem_of_getElem? hy)).ia.still (Turn.refl _ _).drew)
      rw [decide_eq_true HP2.out] at h
      exact h)
    clear h1 h2 hz hy hp hlt
    go_upto_region 4 with fail
    refine wp_region_lit ?_
    refine wpList_run (v := .int .i64 (i : Int)) (wanted_none rfl) (exec_move rfl rfl) ?_
    simp only [Act.put, List.setIfInBounds_toArray, List.set_cons_zero, List.set_cons_succ]
    refine wpList_run (v := .slice (some ⟨b1, o1, none⟩) n c) (wanted_none rfl) (exec_move rfl rfl) ?_
    simp only [Act.put, List.setIfInBounds_toArray, List.set_cons_zero, List.set_cons_succ]
    refine wpList_run (v := .int .i64 (n : Int)) (wanted_none rfl) (gx_len rfl rfl Try.underlying22) ?_
    simp only [Act.put, List.setIfInBounds_toArray, List.set_cons_zero, List.set_cons_succ]
    refine wpList_run (v := .bool true) (wanted_none rfl) (ix_lss rfl rfl rfl (decide_eq_true y3)) ?_
    simp only [Act.put, List.setIfInBounds_toArray, List.set_cons_zero, List.set_cons_succ]
    go_upto_region 6 with fail
    refine wp_region_alw (fun W => (W.cell? ⟨b1, o1 + i * 2 + 0, none⟩ = some (strV z.pre) ∧ W.cell? ⟨b1, o1 + i * 2 + 1, none⟩ = some (.slice z.A z.n z.c)) ∧ (W.cell? ⟨b2, o2 + i * 2 + 0, none⟩ = some (strV y.pre) ∧ W.cell? ⟨b2, o2 + i * 2 + 1, none⟩ = some (.slice y.A y.n y.c))) (by kernel_rfl) ?_
    have hS0 := And.intro HC1.out HC2.out
    refine alw_take (i := 0) (v := .slice (some ⟨b1, o1, none⟩) n c) rfl (by kernel_rfl) (by kernel_rfl) (fun _ _ _ h => h) (.inl ⟨by rfl, fun W hW => exec_move rfl rfl⟩) hS0 ?_
    simp only [Act.put, List.setIfInBounds_toArray, List.set_cons_zero, List.set_cons_succ]
    refine alw_take (i := 1) (v := .int .i64 (i : Int)) rfl (by kernel_rfl) (by kernel_rfl) (fun _ _ _ h => h) (.inl ⟨by rfl, fun W hW => exec_move rfl rfl⟩) hS0 ?_
    simp only [Act.put, List.setIfInBounds_toArray, List.set_cons_zero, List.set_cons_succ]
    refine alw_take (i := 2) (v := .pointer (some ⟨b1, o1 + i * 2, none⟩)) rfl (by kernel_rfl) (by kernel_rfl) (fun _ _ _ h => h) (.inl ⟨by rfl, fun W hW => gx_iaddr (i := i) (sz := 2) rfl rfl rfl Try.underlying22 size_rt HLT.out rfl⟩) hS0 ?_
    simp only [Act.put, List.setIfInBounds_toArray, List.set_cons_zero, List.set_cons_succ]
    refine alw_take (i := 3) (v := .pointer (some ⟨b1, o1 + i * 2 + 1, none⟩)) rfl (by kernel_rfl) (by kernel_rfl) (fun _ _ _ h => h) (.inl ⟨by rfl, fun W hW => exec_field (off := o1 + i * 2) (d := 1) rfl rfl (by kernel_rfl)⟩) hS0 ?_
    simp only [Act.put, List.setIfInBounds_toArray, List.set_cons_zero, List.set_cons_succ]
    refine alw_take (i := 4) (v := .slice z.A z.n z.c) rfl (by kernel_rfl) (by kernel_rfl) (fun _ _ _ h => h) (.inl ⟨by rfl, fun W hW => exec_load1 rfl rfl (by kernel_rfl) hW.1.2⟩) hS0 ?_
    simp only [Act.put, List.setIfInBounds_toArray, List.set_cons_zero, List.set_cons_succ]
    refine alw_take (i := 5) (v := .slice (some ⟨b2, o2, none⟩) n c2) rfl (by kernel_rfl) (by kernel_rfl) (fun _ _ _ h => h) (.inl ⟨by rfl, fun W hW => exec_move rfl rfl⟩) hS0 ?_
    simp only [Act.put, List.setIfInBounds_toArray, List.set_cons_zero, List.set_cons_succ]
    refine alw_take (i := 6) (v := .int .i64 (i : Int)) rfl (by kernel_rfl) (by kernel_rfl) (fun _ _ _ h => h) (.inl ⟨by rfl, fun W hW => exec_move rfl rfl⟩) hS0 ?_
    simp only [Act.put, List.setIfInBounds_toArray, List.set_cons_zero, List.set_cons_succ]
    refine alw_take (i := 7) (v := .pointer (some ⟨b2, o2 + i * 2, none⟩)) rfl (by kernel_rfl) (by kernel_rfl) (fun _ _ _ h => h) (.inl ⟨by rfl, fun W hW => gx_iaddr (i := i) (sz := 2) rfl rfl rfl Try.underlying22 size_rt HLT.out rfl⟩) hS0 ?_
    simp only [Act.put, List.setIfInBounds_toArray, List.set_cons_zero, List.set_cons_succ]
    refine alw_take (i := 8) (v := .pointer (some ⟨b2, o2 + i * 2 + 1, none⟩)) rfl (by kernel_rfl) (by kernel_rfl) (fun _ _ _ h => h) (.inl ⟨by rfl, fun W hW => exec_field (off := o2 + i * 2) (d := 1) rfl rfl (by kernel_rfl)⟩) hS0 ?_
    simp only [Act.put, List.setIfInBounds_toArray, List.set_cons_zero, List.set_cons_succ]
    refine alw_take (i := 9) (v := .slice y.A y.n y.c) rfl (by kernel_rfl) (by kernel_rfl) (fun _ _ _ h => h) (.inl ⟨by rfl, fun W hW => exec_load1 rfl rfl (by kernel_rfl) hW.2.2⟩) hS0 ?_
    simp only [Act.put, List.setIfInBounds_toArray, List.set_cons_zero, List.set_cons_succ]
    refine alw_step (i := 10) (by kernel_rfl) rfl rfl ?_
    intro K1 HK1
    go_wp2_with fail
    refine (HIN.out).mono ?_
    rintro e w2 ⟨rfl, ht2⟩
    have hS1 : (w2.cell? ⟨b1, o1 + i * 2 + 0, none⟩ = some (strV z.pre) ∧ w2.cell? ⟨b1, o1 + i * 2 + 1, none⟩ = some (.slice z.A z.n z.c)) ∧ (w2.cell? ⟨b2, o2 + i * 2 + 0, none⟩ = some (strV y.pre) ∧ w2.cell? ⟨b2, o2 + i * 2 + 1, none⟩ = some (.slice y.A y.n y.c)) := by
      have st : ∀ {p : Addr} {v : Value}, wr.cell? p = some v → w2.cell? p = some v := fun {p v} h => (ht2.cell (World.block_lt_of_cell? _ _ h) fun e => e).trans h
      exact ⟨⟨st hS0.1.1, st hS0.1.2⟩, st hS0.2.1, st hS0.2.2⟩
    have HS1 := Lib.hid hS1
    have HT2 := Lib.hid (HTR.out.trans (((Turn.refl nowhere wr).drew).trans ht2 fun _ _ e => e) fun _ _ e => e)
    clear ht2 HIN hS0
    refine HK1.out _ _ ⟨hS1, ?_⟩
    clear HK1
    try simp only [Act.put, List.setIfInBounds_toArray, List.set_cons_zero, List.set_cons_succ]
    refine alw_take (i := 11) (v := .bool true) rfl (by kernel_rfl) (by kernel_rfl) (fun _ _ _ h => h) (.inl ⟨by rfl, fun W hW => gx_assign rfl rfl⟩) hS1 ?_
    simp only [Act.put, List.setIfInBounds_toArray, List.set_cons_zero, List.set_cons_succ]
    refine alw_done rfl ?_
    refine NoPanic.normal ?_
    clear hS1
    try simp only [Act.put, List.setIfInBounds_toArray, List.set_cons_zero, List.set_cons_succ]
    go_upto_region 7 with fail
    refine wp_region_alw (fun W => (W.cell? ⟨b1, o1 + i * 2 + 0, none⟩ = some (strV z.pre) ∧ W.cell? ⟨b1, o1 + i * 2 + 1, none⟩ = some (.slice z.A z.n z.c)) ∧ (W.cell? ⟨b2, o2 + i * 2 + 0, none⟩ = some (strV y.pre) ∧ W.cell? ⟨b2, o2 + i * 2 + 1, none⟩ = some (.slice y.A y.n y.c))) (by kernel_rfl) ?_
    have hS0 := HS1.out
    refine alw_take (i := 0) (v := .slice (some ⟨b1, o1, none⟩) n c) rfl (by kernel_rfl) (by kernel_rfl) (fun _ _ _ h => h) (.inl ⟨by rfl, fun W hW => exec_move rfl rfl⟩) hS0 ?_
    simp only [Act.put, List.setIfInBounds_toArray, List.set_cons_zero, List.set_cons_succ]
    refine alw_take (i := 1) (v := .int .i64 (i : Int)) rfl (by kernel_rfl) (by kernel_rfl) (fun _ _ _ h => h) (.inl ⟨by rfl, fun W hW => exec_move rfl rfl⟩) hS0 ?_
    simp only [Act.put, List.setIfInBounds_toArray, List.set_cons_zero, List.set_cons_succ]
    refine alw_take (i := 2) (v := .pointer (some ⟨b1, o1 + i * 2, none⟩)) rfl (by kernel_rfl) (by kernel_rfl) (fun _ _ _ h => h) (.inl ⟨by rfl, fun W hW => gx_iaddr (i := i) (sz := 2) rfl rfl rfl Try.underlying22 size_rt HLT.out rfl⟩) hS0 ?_
    simp only [Act.put, List.setIfInBounds_toArray, List.set_cons_zero, List.set_cons_succ]
    refine alw_take (i := 3) (v := .pointer (some ⟨b1, o1 + i * 2 + 0, none⟩)) rfl (by kernel_rfl) (by kernel_rfl) (fun _ _ _ h => h) (.inl ⟨by rfl, fun W hW => exec_field (off := o1 + i * 2) (d := 0) rfl rfl (by kernel_rfl)⟩) hS0 ?_
    simp only [Act.put, List.setIfInBounds_toArray, List.set_cons_zero, List.set_cons_succ]
    refine alw_take (i := 4) (v := strV z.pre) rfl (by kernel_rfl) (by kernel_rfl) (fun _ _ _ h => h) (.inl ⟨by rfl, fun W hW => exec_load1 rfl rfl (by kernel_rfl) hW.1.1⟩) hS0 ?_
    simp only [Act.put, List.setIfInBounds_toArray, List.set_cons_zero, List.set_cons_succ]
    refine alw_take (i := 5) (v := .slice (some ⟨b2, o2, none⟩) n c2) rfl (by kernel_rfl) (by kernel_rfl) (fun _ _ _ h => h) (.inl ⟨by rfl, fun W hW => exec_move rfl rfl⟩) hS0 ?_
    simp only [Act.put, List.setIfInBounds_toArray, List.set_cons_zero, List.set_cons_succ]
    refine alw_take (i := 6) (v := .int .i64 (i : Int)) rfl (by kernel_rfl) (by kernel_rfl) (fun _ _ _ h => h) (.inl ⟨by rfl, fun W hW => exec_move rfl rfl⟩) hS0 ?_
    simp only [Act.put, List.setIfInBounds_toArray, List.set_cons_zero, List.set_cons_succ]
    refine alw_take (i := 7) (v := .pointer (some ⟨b2, o2 + i * 2, none⟩)) rfl (by kernel_rfl) (by kernel_rfl) (fun _ _ _ h => h) (.inl ⟨by rfl, fun W hW => gx_iaddr (i := i) (sz := 2) rfl rfl rfl Try.underlying22 size_rt HLT.out rfl⟩) hS0 ?_
    simp only [Act.put, List.setIfInBounds_toArray, List.set_cons_zero, List.set_cons_succ]
    refine alw_take (i := 8) (v := .pointer (some ⟨b2, o2 + i * 2 + 0, none⟩)) rfl (by kernel_rfl) (by kernel_rfl) (fun _ _ _ h => h) (.inl ⟨by rfl, fun W hW => exec_field (off := o2 + i * 2) (d := 0) rfl rfl (by kernel_rfl)⟩) hS0 ?_
    simp only [Act.put, List.setIfInBounds_toArray, List.set_cons_zero, List.set_cons_succ]
    refine alw_take (i := 9) (v := strV y.pre) rfl (by kernel_rfl) (by kernel_rfl) (fun _ _ _ h => h) (.inl ⟨by rfl, fun W hW => exec_load1 rfl rfl (by kernel_rfl) hW.2.1⟩) hS0 ?_
    simp only [Act.put, List.setIfInBounds_toArray, List.set_cons_zero, List.set_cons_succ]
    refine alw_take (i := 10) (v := .bool false) rfl (by kernel_rfl) (by kernel_rfl) (fun _ _ _ h => h) (.inl ⟨by rfl, fun W hW => exec_sneqr rfl rfl rfl (by rw [HP1.out]; simp)⟩) hS0 ?_
    simp only [Act.put, List.setIfInBounds_toArray, List.set_cons_zero, List.set_cons_succ]
    refine alw_take (i := 11) (v := .bool false) rfl (by kernel_rfl) (by kernel_rfl) (fun _ _ _ h => h) (.inl ⟨by rfl, fun W hW => exec_move rfl rfl⟩) hS0 ?_
    simp only [Act.put, List.setIfInBounds_toArray, List.set_cons_zero, List.set_cons_succ]
    refine alw_take (i := 12) (v := .bool true) rfl (by kernel_rfl) (by kernel_rfl) (fun _ _ _ h => h) (.inl ⟨by rfl, fun W hW => exec_move rfl rfl⟩) hS0 ?_
    simp only [Act.put, List.setIfInBounds_toArray, List.set_cons_zero, List.set_cons_succ]
    refine alw_take (i := 13) (v := .bool false) rfl (by kernel_rfl) (by kernel_rfl) (fun _ _ _ h => h) (.inl ⟨by rfl, fun W hW => ix_not (b := true) rfl rfl⟩) hS0 ?_
    simp only [Act.put, List.setIfInBounds_toArray, List.set_cons_zero, List.set_cons_succ]
    refine alw_take (i := 14) (v := .bool false) rfl (by kernel_rfl) (by kernel_rfl) (fun _ _ _ h => h) (.inl ⟨by rfl, fun W hW => ix_pickF rfl rfl rfl⟩) hS0 ?_
    simp only [Act.put, List.setIfInBounds_toArray, List.set_cons_zero, List.set_cons_succ]
    refine alw_done rfl ?_
    refine NoPanic.normal ?_
    clear hS0
    try simp only [Act.put, List.setIfInBounds_toArray, List.set_cons_zero, List.set_cons_succ]
    go_upto_region 5 with fail
    refine wp_region_lit ?_
    refine wpList_run (v := .int .i64 (i : Int)) (wanted_none rfl) (exec_move rfl rfl) ?_
    simp only [Act.put, List.setIfInBounds_toArray, List.set_cons_zero, List.set_cons_succ]
    refine wpList_run (v := .int .i64 ((i + 1 : Nat) : Int)) (wanted_none rfl) (ix_add rfl rfl rfl (by omega) (by omega)) ?_
    simp only [Act.put, List.setIfInBounds_toArray, List.set_cons_zero, List.set_cons_succ]
    refine wpList_run (v := .int .i64 ((i + 1 : Nat) : Int)) (wanted_none rfl) (gx_assign rfl rfl) ?_
    simp only [Act.put, List.setIfInBounds_toArray, List.set_cons_zero, List.set_cons_succ]
    go_wp2_with fail
    go_roundg (n - (i + 1))
    case measure => have := HGK.out; have := HLT.out; omega
    case rel => exact ⟨i + 1, rfl, by have := HLT.out; omega, HT2.out.drew⟩
  · go_upto_region 4 with fail
    refine wp_region_lit ?_
    refine wpList_run (v := .int .i64 (i : Int)) (wanted_none rfl) (exec_move rfl rfl) ?_
    simp only [Act.put, List.setIfInBounds_toArray, List.set_cons_zero, List.set_cons_succ]
    refine wpList_run (v := .slice A n c) (wanted_none rfl) (exec_move rfl rfl) ?_
    simp only [Act.put, List.setIfInBounds_toArray, List.set_cons_zero, List.set_cons_succ]
    refine wpList_run (v := .int .i64 (n : Int)) (wanted_none rfl) (gx_len rfl rfl Try.underlying22) ?_
    simp only [Act.put, List.setIfInBounds_toArray, List.set_cons_zero, List.set_cons_succ]
    refine wpList_run (v := .bool false) (wanted_none rfl) (ix_lss rfl rfl rfl (decide_eq_false (by omega))) ?_
    simp only [Act.put, List.setIfInBounds_toArray, List.set_cons_zero, List.set_cons_succ]
    go_upto_region 9 with fail
    refine wp_region_lit ?_
    refine wpList_run (v := .bool true) (wanted_none rfl) (gx_assign rfl rfl) ?_
    simp only [Act.put, List.setIfInBounds_toArray, List.set_cons_zero, List.set_cons_succ]
    go_wp2_with fail
    go_ret
    exact ⟨rfl, HTR.out⟩
/-- routes of the call's own, and their members too -/
structure OwnR (w : World) (B C : Nat) (v : Value) (vs : List RtV) : Prop where
  row : Orw w B 38 2 v (vs.map RtV.cells)
  its : ∀ r ∈ vs, r.ok w ∧ Orw w C 3 1 (.slice r.A r.n r.c) (r.to_.map one1)
theorem fit1 (zs : List Int) : Fit 1 (zs.map one1) := fun r hr => by
  obtain ⟨z, _, rfl⟩ := List.mem_map.1 hr
  refine ⟨rfl, fun u hu => ?_⟩
  have hu : u ∈ [Value.int .i64 z] := hu
  simp at hu
  subst hu
  rfl
theorem fitT (vs : List RtV) : Fit 2 (vs.map RtV.cells) := fun r hr => by
  obtain ⟨z, _, rfl⟩ := List.mem_map.1 hr
  exact ⟨rfl, z.one⟩
theorem OwnR.still {w w' : World} {B C : Nat} {v : Value} {vs : List RtV} (h : OwnR w B C v vs) (ht : Turn nowhere w w') : OwnR w' B C v vs := ⟨h.row.still ht, fun r hr => ⟨(h.its r hr).1.still ht, (h.its r hr).2.still ht⟩⟩
theorem OwnR.rts {w : World} {B C : Nat} {A : Option Addr} {n c : Nat} {vs : List RtV} (h : OwnR w B C (.slice A n c) vs) (hn : vs.length ≤ 140737488355328) : RtsAt w A n vs :=
  ⟨h.row.rws (by rw [List.length_map]; exact hn) (by decide), fun r hr => (h.its r hr).1⟩
/-- append([]int{}, ..): what a copy of a route's members is -/
theorem copyI {w : World} {r : RtV} (h : r.ok w) : ∃ A' c' w', (Builtin.append_ #[36, 36] 36 #[.slice (some ⟨w.heap.size, 0, none⟩) 0 0, .slice r.A r.n r.c]).run Try.prog (w.alloc (.cells #[] 3)) = .ok (.slice A' r.n c') w' ∧ Orw w' w.heap.size 3 1 (.slice A' r.n c') (r.to_.map one1) ∧ Turn nowhere w w' ∧ (RtV.mk r.pre A' r.n c' r.to_).ok w' := by
  obtain ⟨A', c', w', h1, h2, h3⟩ := copy_rws elmI (ty := 36) (c := r.c) h.ia (fit1 _) h.nil h.room
  obtain ⟨A9, c9, e9, g1, g2, g3, _⟩ := h2.form
  have hl := h.ia.len
  rw [List.length_map] at *
  injection e9 with e1 e2 e3
  subst e1 e3
  exact ⟨A', c', w', h1, h2, h3, h2.rws (by rw [List.length_map]; have := h.room; omega) (by decide), by have h1 := g1; have h2 := h.ia.len; show r.n ≤ c'; omega, g3, h.room, h.wf, h.pl⟩
theorem Its.turn {F : Nat → Prop} {w w' : World} {B : Nat} {r : RtV} (h : r.ok w ∧ Orw w B 3 1 (.slice r.A r.n r.c) (r.to_.map one1)) (ht : Turn F w w') (hF : ∀ b, (Value.slice r.A r.n r.c).ownBlock = some b → ¬ F b) : r.ok w' ∧ Orw w' B 3 1 (.slice r.A r.n r.c) (r.to_.map one1) :=
  ⟨⟨h.1.ia.turn ht fun b off s e _ _ => hF b (by rw [e]; rfl), h.1.le, h.1.nil, h.1.room, h.1.wf, h.1.pl⟩, h.2.turn ht hF⟩
theorem OwnR.add {w W : World} {A : Option Addr} {i c C : Nat} {us : List RtV} {nv : RtV} (h : OwnR W w.heap.size C (.slice A i c) us) (hT : Turn nowhere w W) (hl : us.length = i) (hn : nv.ok W ∧ Orw W C 3 1 (.slice nv.A nv.n nv.c) (nv.to_.map one1)) (hlen : (i + 1) * 40 ≤ 140737488355328) :
    ∃ A' c' W', (Builtin.append_ #[22, 22] 22 #[.slice A i c, .slice (some ⟨W.heap.size, 0, none⟩) 1 1]).run Try.prog (W.alloc (.cells nv.cells.toArray 38)) = .ok (.slice A' (i + 1) c') W' ∧ OwnR W' w.heap.size C (.slice A' (i + 1) c') (us ++ [nv]) ∧ Turn nowhere w W' := by
  have ha : Turn nowhere W (W.alloc (.cells nv.cells.toArray 38)) := (Turn.refl nowhere W).alloc _
  have hrow := h.row.still ha
  have hlm : (us.map RtV.cells).length = i := by rw [List.length_map]; exact hl
  obtain ⟨A', c', W', hrun, hown, hg, _⟩ := orw_grow elmRt (ty := 22) (news := [nv.cells]) (A := some ⟨W.heap.size, 0, none⟩) (m := 1) (c := 1) hrow (Nat.le_trans hT.size ha.size) (rws_one (et := 38) (r := nv.cells) rfl fun _ => trivial) (Fit.one rfl nv.one) (fun e => by cases e) (by rw [hlm]; exact hlen)
  rw [hlm] at hrun hown
  have ht : Turn (fun k => (Value.slice A i c).ownBlock = some k) (W.alloc (.cells nv.cells.toArray 38)) W' := (Turn.refl _ _).grown hg fun g e _ => e
  have key : ∀ r : RtV, (r.ok W ∧ Orw W C 3 1 (.slice r.A r.n r.c) (r.to_.map one1)) → (r.ok W' ∧ Orw W' C 3 1 (.slice r.A r.n r.c) (r.to_.map one1)) := fun r hr =>
    Its.turn (Its.turn hr ha fun _ _ e => e) ht fun b hb e => by
      obtain ⟨cur, hcur⟩ := hrow.own_blk e
      exact (hr.2.still ha).ne hcur (by decide) b hb rfl
  refine ⟨A', c', W', hrun, ⟨by rw [List.map_append]; exact hown, fun r hr => ?_⟩, (hT.trans ha fun _ _ e => e).trans ht fun k hk e => ?_⟩
  · rcases List.mem_append.1 hr with hr | hr
    · exact key r (h.its r hr)
    · obtain rfl : r = nv := by simpa using hr
      exact key r hn
  · have := (hrow.lt e).1
    omega
set_option maxRecDepth 20000 in
set_option maxHeartbeats 4000000 in
theorem lent_walk {w : World} {A : Option Addr} {n c : Nat} {vs : List RtV} (ha : RtsAt w A n vs) (hr : n * 40 ≤ 140737488355328) :
    Calls Try.prog 8 #[.slice A n c] w fun e w' => ∃ A' c' us, e = .returned (.slice A' n c') ∧ OwnR w' w.heap.size w.heap.size (.slice A' n c') us ∧ us.map RtV.plain = vs.map RtV.plain ∧ Turn nowhere w w' := by
  have HA := Lib.hid ha
  have HR := Lib.hid hr
  have yn : (n : Int) ≤ 140737488355328 := by omega
  clear ha hr
  go_enter Try.func8, Try.ntmps8
  go_upto_region 0 with fail
  refine wp_region_lit ?_
  refine wpList_run (v := .slice none 0 0) (wanted_none rfl) (gx_assign rfl rfl) ?_
  simp only [Act.put, List.setIfInBounds_toArray, List.set_cons_zero, List.set_cons_succ]
  go_upto_region 1 with fail
  have ht0 := (Turn.refl nowhere w).alloc (.cells #[] 38)
  have ho0 : Orw (w.alloc (.cells #[] 38)) w.heap.size 38 2 (.slice (some ⟨w.heap.size, 0, none⟩) 0 0) [] := ⟨Fit.nil 2, World.ownsRow_made w #[] 0 (Nat.le_refl _) (by unfold maxLen; omega) (by simp)⟩
  have HT0 := Lib.hid ht0
  have HO0 := Lib.hid ho0
  clear ht0 ho0
  refine wp_region_lit ?_
  refine wpList_run (v := .slice (some ⟨w.heap.size, 0, none⟩) 0 0) (w' := w.alloc (.cells #[] 38)) (wanted_none rfl) (bx_slice0 rfl (build0T _)) ?_
  simp only [Act.put, List.setIfInBounds_toArray, List.set_cons_zero, List.set_cons_succ]
  refine wpList_run (v := .slice (some ⟨w.heap.size, 0, none⟩) 0 0) (wanted_none rfl) (gx_assign rfl rfl) ?_
  simp only [Act.put, List.setIfInBounds_toArray, List.set_cons_zero, List.set_cons_succ]
  go_upto_region 2 with fail
  refine wp_region_lit ?_
  refine wpList_run (v := .int .i64 0) (wanted_none rfl) (gx_assign rfl rfl) ?_
  simp only [Act.put, List.setIfInBounds_toArray, List.set_cons_zero, List.set_cons_succ]
  go_wp2_with fail
  go_loopg [3, 4] n (fun gk ov iv wr => ∃ (i : Nat) (us : List RtV), iv = .int .i64 (i : Int) ∧ i + gk = n ∧ OwnR wr w.heap.size w.heap.size ov us ∧ us.map RtV.plain = (vs.take i).map RtV.plain ∧ Turn nowhere w wr)
  case atStart => exact ⟨0, [], rfl, by omega, ⟨HO0.out, fun r hr => by cases hr⟩, rfl, HT0.out⟩
  obtain ⟨i, us, rfl, hgk, hown, hpl, htr⟩ := hrel
  have HGK := Lib.hid hgk
  have HTR := Lib.hid htr
  have HPL := Lib.hid hpl
  have hul : us.length = i := by
    have h := congrArg List.length hpl
    rw [List.length_map, List.length_map, List.length_take] at h
    have := HA.out.len
    omega
  have HUL := Lib.hid hul
  obtain ⟨A3, c3, e3, _⟩ := hown.row.form
  rw [List.length_map, hul] at e3
  subst e3
  have HOW := Lib.hid hown
  have yi : (i : Int) ≤ (n : Int) := by omega
  clear hgk hown hpl htr hul
  by_cases hlt : i < n
  · have HLT := Lib.hid hlt
    have y3 : (i : Int) < (n : Int) := by omega
    have HA1 := Lib.hid (HA.out.still HTR.out)
    obtain ⟨b1, o1, e1, h1⟩ := HA1.out.at_ (by omega)
    subst e1
    obtain ⟨z, hz⟩ := getQ (l := vs) (i := i) (by have := HA.out.len; omega)
    have HZ := Lib.hid hz
    have HC1 := Lib.hid (h1 i z hz)
    have HZO := Lib.hid (HA1.out.2 z (List.mem_of_getElem? hz))
    obtain ⟨b9, o9, e9, h9⟩ := HA.out.at_ (by omega)
    injection e9 with e9
    injection e9 with e7 e8
    subst e7 e8
    have HC0 := Lib.hid (h9 i z hz)
    clear h1 h9 hz hlt
    go_upto_region 3 with fail
    refine wp_region_lit ?_
    refine wpList_run (v := .int .i64 (i : Int)) (wanted_none rfl) (exec_move rfl rfl) ?_
    simp only [Act.put, List.setIfInBounds_toArray, List.set_cons_zero, List.set_cons_succ]
    refine wpList_run (v := .slice (some ⟨b1, o1, none⟩) n c) (wanted_none rfl) (exec_move rfl rfl) ?_
    simp only [Act.put, List.setIfInBounds_toArray, List.set_cons_zero, List.set_cons_succ]
    refine wpList_run (v := .int .i64 (n : Int)) (wanted_none rfl) (gx_len rfl rfl Try.underlying22) ?_
    simp only [Act.put, List.setIfInBounds_toArray, List.set_cons_zero, List.set_cons_succ]
    refine wpList_run (v := .bool true) (wanted_none rfl) (ix_lss rfl rfl rfl (decide_eq_true y3)) ?_
    simp only [Act.put, List.setIfInBounds_toArray, List.set_cons_zero, List.set_cons_succ]
    go_upto_region 5 with fail
    refine wp_region_alw (fun W => W.cell? ⟨b1, o1 + i * 2 + 0, none⟩ = some (strV z.pre) ∧ W.cell? ⟨b1, o1 + i * 2 + 1, none⟩ = some (.slice z.A z.n z.c)) (by kernel_rfl) ?_
    have hS0 := HC1.out
    refine alw_take (i := 0) (v := .slice A3 i c3) rfl (by kernel_rfl) (by kernel_rfl) (fun _ _ _ h => h) (.inl ⟨by rfl, fun W hW => exec_move rfl rfl⟩) hS0 ?_
    simp only [Act.put, List.setIfInBounds_toArray, List.set_cons_zero, List.set_cons_succ]
    refine alw_take (i := 1) (v := .slice (some ⟨b1, o1, none⟩) n c) rfl (by kernel_rfl) (by kernel_rfl) (fun _ _ _ h => h) (.inl ⟨by rfl, fun W hW => exec_move rfl rfl⟩) hS0 ?_
    simp only [Act.put, List.setIfInBounds_toArray, List.set_cons_zero, List.set_cons_succ]
    refine alw_take (i := 2) (v := .int .i64 (i : Int)) rfl (by kernel_rfl) (by kernel_rfl) (fun _ _ _ h => h) (.inl ⟨by rfl, fun W hW => exec_move rfl rfl⟩) hS0 ?_
    simp only [Act.put, List.setIfInBounds_toArray, List.set_cons_zero, List.set_cons_succ]
    refine alw_take (i := 3) (v := .pointer (some ⟨b1, o1 + i * 2, none⟩)) rfl (by kernel_rfl) (by kernel_rfl) (fun _ _ _ h => h) (.inl ⟨by rfl, fun W hW => gx_iaddr (i := i) (sz := 2) rfl rfl rfl Try.underlying22 size_rt HLT.out rfl⟩) hS0 ?_
    simp only [Act.put, List.setIfInBounds_toArray, List.set_cons_zero, List.set_cons_succ]
    refine alw_take (i := 4) (v := .pointer (some ⟨b1, o1 + i * 2 + 0, none⟩)) rfl (by kernel_rfl) (by kernel_rfl) (fun _ _ _ h => h) (.inl ⟨by rfl, fun W hW => exec_field (off := o1 + i * 2) (d := 0) rfl rfl (by kernel_rfl)⟩) hS0 ?_
    simp only [Act.put, List.setIfInBounds_toArray, List.set_cons_zero, List.set_cons_succ]
    refine alw_take (i := 5) (v := strV z.pre) rfl (by kernel_rfl) (by kernel_rfl) (fun _ _ _ h => h) (.inl ⟨by rfl, fun W hW => exec_load1 rfl rfl (by kernel_rfl) hW.1⟩) hS0 ?_
    simp only [Act.put, List.setIfInBounds_toArray, List.set_cons_zero, List.set_cons_succ]
    refine alw_take (i := 7) (v := .slice (some ⟨b1, o1, none⟩) n c) rfl (by kernel_rfl) (by kernel_rfl) (fun _ _ _ h => h) (.inl ⟨by rfl, fun W hW => exec_move rfl rfl⟩) hS0 ?_
    simp only [Act.put, List.setIfInBounds_toArray, List.set_cons_zero, List.set_cons_succ]
    refine alw_take (i := 8) (v := .int .i64 (i : Int)) rfl (by kernel_rfl) (by kernel_rfl) (fun _ _ _ h => h) (.inl ⟨by rfl, fun W hW => exec_move rfl rfl⟩) hS0 ?_
    simp only [Act.put, List.setIfInBounds_toArray, List.set_cons_zero, List.set_cons_succ]
    refine alw_take (i := 9) (v := .pointer (some ⟨b1, o1 + i * 2, none⟩)) rfl (by kernel_rfl) (by kernel_rfl) (fun _ _ _ h => h) (.inl ⟨by rfl, fun W hW => gx_iaddr (i := i) (sz := 2) rfl rfl rfl Try.underlying22 size_rt HLT.out rfl⟩) hS0 ?_
    simp only [Act.put, List.setIfInBounds_toArray, List.set_cons_zero, List.set_cons_succ]
    refine alw_take (i := 10) (v := .pointer (some ⟨b1, o1 + i * 2 + 1, none⟩)) rfl (by kernel_rfl) (by kernel_rfl) (fun _ _ _ h => h) (.inl ⟨by rfl, fun W hW => exec_field (off := o1 + i * 2) (d := 1) rfl rfl (by kernel_rfl)⟩) hS0 ?_
    simp only [Act.put, List.setIfInBounds_toArray, List.set_cons_zero, List.set_cons_succ]
    refine alw_take (i := 11) (v := .slice z.A z.n z.c) rfl (by kernel_rfl) (by kernel_rfl) (fun _ _ _ h => h) (.inl ⟨by rfl, fun W hW => exec_load1 rfl rfl (by kernel_rfl) hW.2⟩) hS0 ?_
    simp only [Act.put, List.setIfInBounds_toArray, List.set_cons_zero, List.set_cons_succ]
    obtain ⟨w2, hw2⟩ : ∃ v, v = wr.drew := ⟨_, rfl⟩
    rw [← hw2]
    have HT2 := Lib.hid (show Turn nowhere wr w2 from by rw [hw2]; exact (Turn.refl _ _).drew)
    obtain ⟨A7, c7, w7, hrun, hrow, ht7, hok⟩ := copyI (HZO.out.still HT2.out)
    have HRUN := Lib.hid hrun
    have HST := Lib.hid (show ∀ W : World, Turn nowhere w W → (W.cell? ⟨b1, o1 + i * 2 + 0, none⟩ = some (strV z.pre) ∧ W.cell? ⟨b1, o1 + i * 2 + 1, none⟩ = some (.slice z.A z.n z.c)) from fun W ht =>
      ⟨(ht.cell (World.block_lt_of_cell? _ _ HC0.out.1) fun e => e).trans HC0.out.1, (ht.cell (World.block_lt_of_cell? _ _ HC0.out.2) fun e => e).trans HC0.out.2⟩)
    have HT27 := Lib.hid ((HTR.out.trans HT2.out fun _ _ e => e).trans ht7 fun _ _ e => e)
    have HT02 := Lib.hid (HTR.out.trans HT2.out fun _ _ e => e)
    obtain ⟨nv, hnv⟩ : ∃ r, r = RtV.mk z.pre A7 z.n c7 z.to_ := ⟨_, rfl⟩
    rw [← hnv] at hok
    obtain ⟨A8, c8, w8, hrun8, how8, ht8⟩ := OwnR.add (nv := nv) ((HOW.out.still HT2.out).still ht7) HT27.out HUL.out ⟨hok, by rw [hnv]; exact hrow.less (HTR.out.trans HT2.out fun _ _ e => e).size⟩ (by have := HLT.out; have := HR.out; omega)
    have HRUN8 := Lib.hid hrun8
    have HO8 := Lib.hid how8
    have HT8 := Lib.hid ht8
    have HP8 := Lib.hid (show (us ++ [nv]).map RtV.plain = (vs.take (i + 1)).map RtV.plain from by
      rw [List.map_append, HPL.out, List.take_add_one, HZ.out, hnv]
      simp
      rfl)
    have HNV := Lib.hid hnv
    clear hrun hrow ht7 hok hw2 hS0 hnv hrun8 how8 ht8
    refine alw_step (i := 6) (by kernel_rfl) rfl rfl ?_
    intro K1 HK1
    refine wp_run (v := .slice (some ⟨w2.heap.size, 0, none⟩) 0 0) (w' := w2.alloc (.cells #[] 3)) (bx_slice0 rfl (build0I _)) ?_
    refine HK1.out _ _ ⟨HST.out _ (HT02.out.alloc _), ?_⟩
    clear HK1
    try simp only [Act.put, List.setIfInBounds_toArray, List.set_cons_zero, List.set_cons_succ]
    refine alw_step (i := 12) (by kernel_rfl) rfl rfl ?_
    intro K1 HK1
    refine wp_run (v := .slice A7 z.n c7) (w' := w7) (exec_append rfl rfl rfl HRUN.out) ?_
    refine HK1.out _ _ ⟨HST.out _ HT27.out, ?_⟩
    clear HK1
    try simp only [Act.put, List.setIfInBounds_toArray, List.set_cons_zero, List.set_cons_succ]
    have hS0 := HST.out _ HT27.out
    refine alw_take (i := 13) (v := .agg nv.cells.toArray) rfl (by kernel_rfl) (by kernel_rfl) (fun _ _ _ h => h) (.inl ⟨by rfl, fun W hW => by rw [HNV.out]; exact gx_build2 rfl rfl rfl (buildRt z.pre A7 z.n c7 _)⟩) hS0 ?_
    simp only [Act.put, List.setIfInBounds_toArray, List.set_cons_zero, List.set_cons_succ]
    clear hS0
    refine alw_step (i := 14) (by kernel_rfl) rfl rfl ?_
    intro K1 HK1
    refine wp_run (v := .slice (some ⟨w7.heap.size, 0, none⟩) 1 1) (w' := w7.alloc (.cells nv.cells.toArray 38)) (exec_buildSlice1 rfl rfl (build_one elmRt nv.cells rfl (by decide) _ rfl _)) ?_
    refine HK1.out _ _ ⟨HST.out _ (HT27.out.alloc _), ?_⟩
    clear HK1
    try simp only [Act.put, List.setIfInBounds_toArray, List.set_cons_zero, List.set_cons_succ]
    refine alw_step (i := 15) (by kernel_rfl) rfl rfl ?_
    intro K1 HK1
    refine wp_run (v := .slice A8 (i + 1) c8) (w' := w8) (exec_append rfl rfl rfl HRUN8.out) ?_
    refine HK1.out _ _ ⟨HST.out _ HT8.out, ?_⟩
    clear HK1
    try simp only [Act.put, List.setIfInBounds_toArray, List.set_cons_zero, List.set_cons_succ]
    have hS0 := HST.out _ HT8.out
    refine alw_take (i := 16) (v := .slice A8 (i + 1) c8) rfl (by kernel_rfl) (by kernel_rfl) (fun _ _ _ h => h) (.inl ⟨by rfl, fun W hW => gx_assign rfl rfl⟩) hS0 ?_
    simp only [Act.put, List.setIfInBounds_toArray, List.set_cons_zero, List.set_cons_succ]
    refine alw_done rfl ?_
    refine NoPanic.normal ?_
    clear hS0
    try simp only [Act.put, List.setIfInBounds_toArray, List.set_cons_zero, List.set_cons_succ]
    go_upto_region 4 with fail
    refine wp_region_lit ?_
    refine wpList_run (v := .int .i64 (i : Int)) (wanted_none rfl) (exec_move rfl rfl) ?_
    simp only [Act.put, List.setIfInBounds_toArray, List.set_cons_zero, List.set_cons_succ]
    refine wpList_run (v := .int .i64 ((i + 1 : Nat) : Int)) (wanted_none rfl) (ix_add rfl rfl rfl (by omega) (by omega)) ?_
    simp only [Act.put, List.setIfInBounds_toArray, List.set_cons_zero, List.set_cons_succ]
    refine wpList_run (v := .int .i64 ((i + 1 : Nat) : Int)) (wanted_none rfl) (gx_assign rfl rfl) ?_
    simp only [Act.put, List.setIfInBounds_toArray, List.set_cons_zero, List.set_cons_succ]
    go_wp2_with fail
    go_roundg (n - (i + 1))
    case measure => have := HGK.out; have := HLT.out; omega
    case rel => exact ⟨i + 1, us ++ [nv], rfl, by have := HLT.out; omega, HO8.out, HP8.out, HT8.out⟩
  · obtain rfl : n = i := by omega
    clear hlt
    go_upto_region 3 with fail
    refine wp_region_lit ?_
    refine wpList_run (v := .int .i64 (n : Int)) (wanted_none rfl) (exec_move rfl rfl) ?_
    simp only [Act.put, List.setIfInBounds_toArray, List.set_cons_zero, List.set_cons_succ]
    refine wpList_run (v := .slice A n c) (wanted_none rfl) (exec_move rfl rfl) ?_
    simp only [Act.put, List.setIfInBounds_toArray, List.set_cons_zero, List.set_cons_succ]
    refine wpList_run (v := .int .i64 (n : Int)) (wanted_none rfl) (gx_len rfl rfl Try.underlying22) ?_
    simp only [Act.put, List.setIfInBounds_toArray, List.set_cons_zero, List.set_cons_succ]
    refine wpList_run (v := .bool false) (wanted_none rfl) (ix_lss rfl rfl rfl (decide_eq_false (by omega))) ?_
    simp only [Act.put, List.setIfInBounds_toArray, List.set_cons_zero, List.set_cons_succ]
    go_upto_region 6 with fail
    refine wp_region_lit ?_
    refine wpList_run (v := .slice A3 n c3) (wanted_none rfl) (exec_move rfl rfl) ?_
    simp only [Act.put, List.setIfInBounds_toArray, List.set_cons_zero, List.set_cons_succ]
    refine wpList_run (v := .slice A3 n c3) (wanted_none rfl) (gx_assign rfl rfl) ?_
    simp only [Act.put, List.setIfInBounds_toArray, List.set_cons_zero, List.set_cons_succ]
    go_wp2_with fail
    go_ret
    exact ⟨A3, c3, us, rfl, HOW.out, by have h := HPL.out; rw [List.take_of_length_le (by have := HA.out.len; omega)] at h; exact h, HTR.out⟩
end Go.Proofs.Ytihmpbilbnajpaa
