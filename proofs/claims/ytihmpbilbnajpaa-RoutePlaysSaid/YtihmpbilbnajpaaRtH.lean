/-
  Routes: what is spoilt: the walk. No conditions.
-/
import Derived.Test.YtihmpbilbnajpaaRtG
namespace Go.Proofs.Ytihmpbilbnajpaa
open Go.RowKit
open Ix
open Rt (R)
set_option linter.unusedVariables false
set_option linter.unusedSimpArgs false
/-- routes that may be written over -/
structure Spl (w : World) (A : Option Addr) (vs : List RtV) : Prop where
  row : 0 < vs.length → ∃ b cur, A = some ⟨b, 0, none⟩ ∧ Blk w b 38 cur ∧ vs.length * 2 ≤ cur.size ∧ ∀ j r, vs[j]? = some r → cur[j * 2 + 1]? = some (.slice r.A r.n r.c)
  its : ∀ r ∈ vs, 0 < r.n → ∃ g cur, r.A = some ⟨g, 0, none⟩ ∧ Blk w g 3 cur ∧ r.n ≤ cur.size
/-- the blocks that are written then -/
def SplF (A : Option Addr) (vs : List RtV) (k : Nat) : Prop := A = some ⟨k, 0, none⟩ ∨ ∃ r ∈ vs, r.A = some ⟨k, 0, none⟩
theorem OwnR.spl {w : World} {B C : Nat} {A : Option Addr} {n c : Nat} {vs : List RtV} (h : OwnR w B C (.slice A n c) vs) : Spl w A vs := by
  refine ⟨fun h0 => ?_, fun r hr h0 => ?_⟩
  · obtain ⟨b, c1, e, _, _⟩ := h.row.some_ (by rw [List.length_map]; exact h0)
    injection e with e1 e2 e3
    subst e1 e3
    obtain ⟨cur, hb, hs, _, hn, hnc, _, _⟩ := orw_block h.row
    rw [List.length_map] at hn
    refine ⟨b, cur, rfl, hb, by rw [hs]; omega, fun j r hj => ?_⟩
    have hc := h.row.el (i := j) (r := r.cells) (by rw [List.getElem?_map, hj]; rfl) 1 _ rfl
    rwa [hb.cell] at hc
  · have ho := (h.its r hr).2
    obtain ⟨b, c1, e, _, _⟩ := ho.some_ (by rw [List.length_map]; have := (h.its r hr).1.ia.len; omega)
    injection e with e1 e2 e3
    rw [e1, e3] at ho
    obtain ⟨cur, hb, hs, _, hn, hnc, _, _⟩ := orw_block ho
    exact ⟨b, cur, e1, hb, by omega⟩
theorem OwnR.splF {w : World} {B C k : Nat} {A : Option Addr} {n c : Nat} {vs : List RtV} (h : OwnR w B C (.slice A n c) vs) (hk : SplF A vs k) : (B ≤ k ∨ C ≤ k) ∧ k < w.heap.size := by
  rcases hk with rfl | ⟨r, hr, e⟩
  · have := h.row.lt (b := k) rfl
    exact ⟨.inl this.1, this.2⟩
  · have := (h.its r hr).2.lt (b := k) (by rw [e]; rfl)
    exact ⟨.inr this.1, this.2⟩
theorem Spl.turn {w w' : World} {A : Option Addr} {vs : List RtV} (h : Spl w A vs) (ht : Turn nowhere w w') : Spl w' A vs :=
  ⟨fun h0 => by obtain ⟨b, cur, e, hb, h1, h2⟩ := h.row h0; exact ⟨b, cur, e, hb.turn ht fun e => e, h1, h2⟩, fun r hr h0 => by obtain ⟨b, cur, e, hb, h1⟩ := h.its r hr h0; exact ⟨b, cur, e, hb.turn ht fun e => e, h1⟩⟩
theorem Blk.ty {w : World} {g : Nat} {t t' : TypeId} {cs cs' : Array Value} (h : Blk w g t cs) (h' : Blk w g t' cs') : t = t' := by
  unfold Blk at h h'
  rw [h] at h'
  injection h' with h'
  injection h' with _ e
theorem Spl.pre {w w' : World} {b i o1 : Nat} {vs : List RtV} {cur : Array Value} {u : Value} (h : Spl w (some ⟨b, 0, none⟩) vs) (ho : o1 = 0 + i * 2) (hb : Blk w b 38 cur) (hb' : Blk w' b 38 (cur.setIfInBounds o1 u)) (ht : Turn (only b) w w') : Spl w' (some ⟨b, 0, none⟩) vs := by
  refine ⟨fun h0 => ?_, fun r hr h0 => ?_⟩
  · obtain ⟨b2, cur2, e, hb2, h1, h2⟩ := h.row h0
    injection e with e
    injection e with e
    subst e
    obtain rfl := hb2.inj hb
    refine ⟨b, _, rfl, hb', by simpa using h1, fun j r hj => ?_⟩
    rw [Array.getElem?_setIfInBounds, if_neg (by omega)]
    exact h2 j r hj
  · obtain ⟨g, cur2, e, hg, h1⟩ := h.its r hr h0
    refine ⟨g, cur2, e, hg.turn ht fun e2 => ?_, h1⟩
    have e2 : g = b := e2
    subst e2
    exact absurd (Blk.ty hg hb) (by decide)
theorem Spl.int {w w' : World} {A : Option Addr} {g i : Nat} {vs : List RtV} {cur : Array Value} {u : Value} (h : Spl w A vs) (hb : Blk w g 3 cur) (hb' : Blk w' g 3 (cur.setIfInBounds i u)) (ht : Turn (only g) w w') : Spl w' A vs := by
  refine ⟨fun h0 => ?_, fun r hr h0 => ?_⟩
  · obtain ⟨b2, cur2, e, hb2, h1, h2⟩ := h.row h0
    refine ⟨b2, cur2, e, hb2.turn ht fun e2 => ?_, h1, h2⟩
    have e2 : b2 = g := e2
    subst e2
    exact absurd (Blk.ty hb2 hb) (by decide)
  · obtain ⟨g2, cur2, e, hg, h1⟩ := h.its r hr h0
    by_cases e2 : g2 = g
    · subst e2
      obtain rfl := hg.inj hb
      exact ⟨g2, _, e, hb', by simpa using h1⟩
    · exact ⟨g2, cur2, e, hg.turn ht e2, h1⟩
set_option maxRecDepth 20000 in
set_option maxHeartbeats 4000000 in
theorem spoil_walk {w : World} {A : Option Addr} {n c : Nat} {vs : List RtV} (h : Spl w A vs) (hn : n = vs.length) (hl : ∀ r ∈ vs, r.n ≤ 140737488355328) (hl2 : n ≤ 140737488355328) :
    Calls Try.prog 10 #[.slice A n c] w fun e w' => e = .returned (.tuple #[]) ∧ Turn (SplF A vs) w w' := by
  have HS := Lib.hid h
  have HN := Lib.hid hn
  have HL := Lib.hid hl
  have yn : (n : Int) ≤ 140737488355328 := by omega
  clear h hn hl hl2
  go_enter Try.func10, Try.ntmps10
  go_upto_region 0 with fail
  refine wp_region_lit ?_
  refine wpList_run (v := .int .i64 0) (wanted_none rfl) (gx_assign rfl rfl) ?_
  simp only [Act.put, List.setIfInBounds_toArray, List.set_cons_zero, List.set_cons_succ]
  go_wp2_with fail
  go_loopg [2, 3] n (fun gk iv kv wr => ∃ (i : Nat), iv = .int .i64 (i : Int) ∧ i + gk = n ∧ Spl wr A vs ∧ Turn (SplF A vs) w wr)
  case atStart => exact ⟨0, rfl, by omega, HS.out, Turn.refl _ _⟩
  obtain ⟨i, rfl, hgk, hsp, htr⟩ := hrel
  have HGK := Lib.hid hgk
  have HSP := Lib.hid hsp
  have HTR := Lib.hid htr
  have yi : (i : Int) ≤ (n : Int) := by omega
  clear hgk hsp htr
  by_cases hlt : i < n
  · have HLT := Lib.hid hlt
    have y3 : (i : Int) < (n : Int) := by omega
    obtain ⟨b1, cur, e1, hb1, hsz, hcur⟩ := HSP.out.row (by have := HN.out; omega)
    subst e1
    obtain ⟨z, hz⟩ := getQ (l := vs) (i := i) (by have := HN.out; omega)
    have HZ := Lib.hid hz
    have HB1 := Lib.hid hb1
    have HSZ := Lib.hid hsz
    have yz : (z.n : Int) ≤ 140737488355328 := by have := HL.out z (List.mem_of_getElem? hz); omega
    obtain ⟨o1, ho1⟩ : ∃ o1, o1 = 0 + i * 2 := ⟨_, rfl⟩
    have HO1 := Lib.hid ho1
    clear hlt hb1 hsz hcur hz ho1
    go_upto_region 1 with fail
    refine wp_region_lit ?_
    refine wpList_run (v := .int .i64 (i : Int)) (wanted_none rfl) (exec_move rfl rfl) ?_
    simp only [Act.put, List.setIfInBounds_toArray, List.set_cons_zero, List.set_cons_succ]
    refine wpList_run (v := .slice (some ⟨b1, 0, none⟩) n c) (wanted_none rfl) (exec_move rfl rfl) ?_
    simp only [Act.put, List.setIfInBounds_toArray, List.set_cons_zero, List.set_cons_succ]
    refine wpList_run (v := .int .i64 (n : Int)) (wanted_none rfl) (gx_len rfl rfl Try.underlying22) ?_
    simp only [Act.put, List.setIfInBounds_toArray, List.set_cons_zero, List.set_cons_succ]
    refine wpList_run (v := .bool true) (wanted_none rfl) (ix_lss rfl rfl rfl (decide_eq_true y3)) ?_
    simp only [Act.put, List.setIfInBounds_toArray, List.set_cons_zero, List.set_cons_succ]
    go_upto_region 3 with fail
    refine wp_region_lit ?_
    refine wpList_run (v := .slice (some ⟨b1, 0, none⟩) n c) (wanted_none rfl) (exec_move rfl rfl) ?_
    simp only [Act.put, List.setIfInBounds_toArray, List.set_cons_zero, List.set_cons_succ]
    refine wpList_run (v := .int .i64 (i : Int)) (wanted_none rfl) (exec_move rfl rfl) ?_
    simp only [Act.put, List.setIfInBounds_toArray, List.set_cons_zero, List.set_cons_succ]
    refine wpList_run (v := .pointer (some ⟨b1, o1, none⟩)) (wanted_none rfl) (by rw [HO1.out]; exact gx_iaddr (i := i) (sz := 2) rfl rfl rfl Try.underlying22 size_rt HLT.out rfl) ?_
    simp only [Act.put, List.setIfInBounds_toArray, List.set_cons_zero, List.set_cons_succ]
    refine wpList_run (v := .pointer (some ⟨b1, o1, none⟩)) (wanted_none rfl) (exec_field (off := o1) (d := 0) rfl rfl (by kernel_rfl)) ?_
    simp only [Act.put, List.setIfInBounds_toArray, List.set_cons_zero, List.set_cons_succ]
    refine wpList_storeU o1 (strV [115, 112, 111, 105, 108, 116]) (wanted_none rfl) 9 _ _ rfl HB1.out rfl rfl (by have := HSZ.out; have := HLT.out; have := HN.out; have := HO1.out; omega) ⟨rfl, rfl⟩ (by kernel_rfl) ?_
    intro w2 hb2 ht2
    simp only [Act.put, List.setIfInBounds_toArray, List.set_cons_zero, List.set_cons_succ]
    have HSP2 := Lib.hid (HSP.out.pre HO1.out HB1.out hb2 ht2)
    have HTR2 := Lib.hid (HTR.out.trans (ht2.mono fun k _ e => (.inl (by rw [show k = b1 from e]) : SplF _ vs k)) fun _ _ e => e)
    clear hb2 ht2
    go_upto_region 4 with fail
    refine wp_region_lit ?_
    refine wpList_run (v := .int .i64 0) (wanted_none rfl) (gx_assign rfl rfl) ?_
    simp only [Act.put, List.setIfInBounds_toArray, List.set_cons_zero, List.set_cons_succ]
    go_wp2_with fail
    go_loopg [3] z.n (fun gk2 kv wr => ∃ (k : Nat), kv = .int .i64 (k : Int) ∧ k + gk2 = z.n ∧ Spl wr (some ⟨b1, 0, none⟩) vs ∧ Turn (SplF (some ⟨b1, 0, none⟩) vs) w wr)
    case atStart => exact ⟨0, rfl, by omega, HSP2.out, HTR2.out⟩
    obtain ⟨k, rfl, hgk, hsp, htr⟩ := hrel
    have HGK2 := Lib.hid hgk
    have HSPq := Lib.hid hsp
    have HTRq := Lib.hid htr
    have yk : (k : Int) ≤ (z.n : Int) := by omega
    clear hgk hsp htr
    obtain ⟨b9, cur9, e9, hb9, hsz9, hc9⟩ := HSPq.out.row (by have := HN.out; have := HLT.out; omega)
    injection e9 with e9
    injection e9 with e9
    subst e9
    have HCZ := Lib.hid (show wr.cell? ⟨b1, o1 + 1, none⟩ = some (.slice z.A z.n z.c) from by rw [hb9.cell, HO1.out, Nat.zero_add]; exact hc9 i z HZ.out)
    clear hb9 hsz9 hc9
    by_cases hkt : k < z.n
    · have HKT := Lib.hid hkt
      have y4 : (k : Int) < (z.n : Int) := by omega
      obtain ⟨g, cg, eg, hg, hgs⟩ := HSPq.out.its z (List.mem_of_getElem? HZ.out) (by omega)
      have HG := Lib.hid hg
      have HGS := Lib.hid hgs
      have HEG := Lib.hid eg
      have HCZ2 := Lib.hid (show wr.cell? ⟨b1, o1 + 1, none⟩ = some (.slice (some ⟨g, 0, none⟩) z.n z.c) from by rw [HCZ.out, eg])
      clear hkt hg hgs eg
      go_upto_region 5 with fail
      refine wp_region_lit ?_
      refine wpList_run (v := .int .i64 (k : Int)) (wanted_none rfl) (exec_move rfl rfl) ?_
      simp only [Act.put, List.setIfInBounds_toArray, List.set_cons_zero, List.set_cons_succ]
      refine wpList_run (v := .slice (some ⟨b1, 0, none⟩) n c) (wanted_none rfl) (exec_move rfl rfl) ?_
      simp only [Act.put, List.setIfInBounds_toArray, List.set_cons_zero, List.set_cons_succ]
      refine wpList_run (v := .int .i64 (i : Int)) (wanted_none rfl) (exec_move rfl rfl) ?_
      simp only [Act.put, List.setIfInBounds_toArray, List.set_cons_zero, List.set_cons_succ]
      refine wpList_run (v := .pointer (some ⟨b1, o1, none⟩)) (wanted_none rfl) (by rw [HO1.out]; exact gx_iaddr (i := i) (sz := 2) rfl rfl rfl Try.underlying22 size_rt HLT.out rfl) ?_
      simp only [Act.put, List.setIfInBounds_toArray, List.set_cons_zero, List.set_cons_succ]
      refine wpList_run (v := .pointer (some ⟨b1, o1 + 1, none⟩)) (wanted_none rfl) (exec_field (off := o1) (d := 1) rfl rfl (by kernel_rfl)) ?_
      simp only [Act.put, List.setIfInBounds_toArray, List.set_cons_zero, List.set_cons_succ]
      refine wpList_run (v := .slice (some ⟨g, 0, none⟩) z.n z.c) (wanted_none rfl) (exec_load1 rfl rfl (by kernel_rfl) HCZ2.out) ?_
      simp only [Act.put, List.setIfInBounds_toArray, List.set_cons_zero, List.set_cons_succ]
      refine wpList_run (v := .int .i64 (z.n : Int)) (wanted_none rfl) (gx_len rfl rfl Try.underlying36) ?_
      simp only [Act.put, List.setIfInBounds_toArray, List.set_cons_zero, List.set_cons_succ]
      refine wpList_run (v := .bool true) (wanted_none rfl) (ix_lss rfl rfl rfl (decide_eq_true y4)) ?_
      simp only [Act.put, List.setIfInBounds_toArray, List.set_cons_zero, List.set_cons_succ]
      go_upto_region 7 with fail
      refine wp_region_lit ?_
      refine wpList_run (v := .slice (some ⟨b1, 0, none⟩) n c) (wanted_none rfl) (exec_move rfl rfl) ?_
      simp only [Act.put, List.setIfInBounds_toArray, List.set_cons_zero, List.set_cons_succ]
      refine wpList_run (v := .int .i64 (i : Int)) (wanted_none rfl) (exec_move rfl rfl) ?_
      simp only [Act.put, List.setIfInBounds_toArray, List.set_cons_zero, List.set_cons_succ]
      refine wpList_run (v := .pointer (some ⟨b1, o1, none⟩)) (wanted_none rfl) (by rw [HO1.out]; exact gx_iaddr (i := i) (sz := 2) rfl rfl rfl Try.underlying22 size_rt HLT.out rfl) ?_
      simp only [Act.put, List.setIfInBounds_toArray, List.set_cons_zero, List.set_cons_succ]
      refine wpList_run (v := .pointer (some ⟨b1, o1 + 1, none⟩)) (wanted_none rfl) (exec_field (off := o1) (d := 1) rfl rfl (by kernel_rfl)) ?_
      simp only [Act.put, List.setIfInBounds_toArray, List.set_cons_zero, List.set_cons_succ]
      refine wpList_run (v := .slice (some ⟨g, 0, none⟩) z.n z.c) (wanted_none rfl) (exec_load1 rfl rfl (by kernel_rfl) HCZ2.out) ?_
      simp only [Act.put, List.setIfInBounds_toArray, List.set_cons_zero, List.set_cons_succ]
      refine wpList_run (v := .int .i64 (k : Int)) (wanted_none rfl) (exec_move rfl rfl) ?_
      simp only [Act.put, List.setIfInBounds_toArray, List.set_cons_zero, List.set_cons_succ]
      refine wpList_run (v := .pointer (some ⟨g, 0 + k * 1, none⟩)) (wanted_none rfl) (gx_iaddr (i := k) (sz := 1) rfl rfl rfl Try.underlying36 size_int HKT.out rfl) ?_
      simp only [Act.put, List.setIfInBounds_toArray, List.set_cons_zero, List.set_cons_succ]
      refine wpList_storeU (0 + k * 1) (.int .i64 77) (wanted_none rfl) 3 _ _ rfl HG.out rfl rfl (by have := HKT.out; have := HGS.out; omega) ⟨rfl, rfl⟩ (by kernel_rfl) ?_
      intro w3 hb3 ht3
      simp only [Act.put, List.setIfInBounds_toArray, List.set_cons_zero, List.set_cons_succ]
      have HSP3 := Lib.hid (HSPq.out.int HG.out hb3 ht3)
      have HTR3 := Lib.hid (HTRq.out.trans (ht3.mono fun k _ e => (.inr ⟨z, List.mem_of_getElem? HZ.out, by rw [show k = g from e]; exact HEG.out⟩ : SplF _ vs k)) fun _ _ e => e)
      clear hb3 ht3
      go_upto_region 6 with fail
      refine wp_region_lit ?_
      refine wpList_run (v := .int .i64 (k : Int)) (wanted_none rfl) (exec_move rfl rfl) ?_
      simp only [Act.put, List.setIfInBounds_toArray, List.set_cons_zero, List.set_cons_succ]
      refine wpList_run (v := .int .i64 ((k + 1 : Nat) : Int)) (wanted_none rfl) (ix_add rfl rfl rfl (by omega) (by omega)) ?_
      simp only [Act.put, List.setIfInBounds_toArray, List.set_cons_zero, List.set_cons_succ]
      refine wpList_run (v := .int .i64 ((k + 1 : Nat) : Int)) (wanted_none rfl) (gx_assign rfl rfl) ?_
      simp only [Act.put, List.setIfInBounds_toArray, List.set_cons_zero, List.set_cons_succ]
      go_wp2_with fail
      go_roundg (z.n - (k + 1))
      case measure => have := HGK2.out; have := HKT.out; omega
      case rel => exact ⟨k + 1, rfl, by have := HKT.out; omega, HSP3.out, HTR3.out⟩
    · go_upto_region 5 with fail
      refine wp_region_lit ?_
      refine wpList_run (v := .int .i64 (k : Int)) (wanted_none rfl) (exec_move rfl rfl) ?_
      simp only [Act.put, List.setIfInBounds_toArray, List.set_cons_zero, List.set_cons_succ]
      refine wpList_run (v := .slice (some ⟨b1, 0, none⟩) n c) (wanted_none rfl) (exec_move rfl rfl) ?_
      simp only [Act.put, List.setIfInBounds_toArray, List.set_cons_zero, List.set_cons_succ]
      refine wpList_run (v := .int .i64 (i : Int)) (wanted_none rfl) (exec_move rfl rfl) ?_
      simp only [Act.put, List.setIfInBounds_toArray, List.set_cons_zero, List.set_cons_succ]
      refine wpList_run (v := .pointer (some ⟨b1, o1, none⟩)) (wanted_none rfl) (by rw [HO1.out]; exact gx_iaddr (i := i) (sz := 2) rfl rfl rfl Try.underlying22 size_rt HLT.out rfl) ?_
      simp only [Act.put, List.setIfInBounds_toArray, List.set_cons_zero, List.set_cons_succ]
      refine wpList_run (v := .pointer (some ⟨b1, o1 + 1, none⟩)) (wanted_none rfl) (exec_field (off := o1) (d := 1) rfl rfl (by kernel_rfl)) ?_
      simp only [Act.put, List.setIfInBounds_toArray, List.set_cons_zero, List.set_cons_succ]
      refine wpList_run (v := .slice z.A z.n z.c) (wanted_none rfl) (exec_load1 rfl rfl (by kernel_rfl) HCZ.out) ?_
      simp only [Act.put, List.setIfInBounds_toArray, List.set_cons_zero, List.set_cons_succ]
      refine wpList_run (v := .int .i64 (z.n : Int)) (wanted_none rfl) (gx_len rfl rfl Try.underlying36) ?_
      simp only [Act.put, List.setIfInBounds_toArray, List.set_cons_zero, List.set_cons_succ]
      refine wpList_run (v := .bool false) (wanted_none rfl) (ix_lss rfl rfl rfl (decide_eq_false (by omega))) ?_
      simp only [Act.put, List.setIfInBounds_toArray, List.set_cons_zero, List.set_cons_succ]
      go_upto_region 2 with fail
      refine wp_region_lit ?_
      refine wpList_run (v := .int .i64 (i : Int)) (wanted_none rfl) (exec_move rfl rfl) ?_
      simp only [Act.put, List.setIfInBounds_toArray, List.set_cons_zero, List.set_cons_succ]
      refine wpList_run (v := .int .i64 ((i + 1 : Nat) : Int)) (wanted_none rfl) (ix_add rfl rfl rfl (by omega) (by omega)) ?_
      simp only [Act.put, List.setIfInBounds_toArray, List.set_cons_zero, List.set_cons_succ]
      refine wpList_run (v := .int .i64 ((i + 1 : Nat) : Int)) (wanted_none rfl) (gx_assign rfl rfl) ?_
      simp only [Act.put, List.setIfInBounds_toArray, List.set_cons_zero, List.set_cons_succ]
      go_wp2_with fail
      go_roundg (n - (i + 1))
      case measure => have := HGK.out; have := HLT.out; omega
      case rel => exact ⟨i + 1, rfl, by have := HLT.out; omega, HSPq.out, HTRq.out⟩
  · go_upto_region 1 with fail
    refine wp_region_lit ?_
    refine wpList_run (v := .int .i64 (i : Int)) (wanted_none rfl) (exec_move rfl rfl) ?_
    simp only [Act.put, List.setIfInBounds_toArray, List.set_cons_zero, List.set_cons_succ]
    refine wpList_run (v := .slice A n c) (wanted_none rfl) (exec_move rfl rfl) ?_
    simp only [Act.put, List.setIfInBounds_toArray, List.set_cons_zero, List.set_cons_succ]
    refine wpList_run (v := .int .i64 (n : Int)) (wanted_none rfl) (gx_len rfl rfl Try.underlying22) ?_
    simp only [Act.put, List.setIfInBounds_toArray, List.set_cons_zero, List.set_cons_succ]
    refine wpList_run (v := .bool false) (wanted_none rfl) (ix_lss rfl rfl rfl (decide_eq_false (by omega))) ?_
    simp only [Act.put, List.setIfInBounds_toArray, List.set_cons_zero, List.set_cons_succ]
    go_wp2_with fail
    go_end0
    exact ⟨rfl, HTR.out⟩
end Go.Proofs.Ytihmpbilbnajpaa
