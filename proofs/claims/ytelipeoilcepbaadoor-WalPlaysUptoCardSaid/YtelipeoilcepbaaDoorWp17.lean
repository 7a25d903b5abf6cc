/-
  Texts in one file: WlS. Conditions: the tables and the errors read as the program's text lays them.
-/
import Derived.Test.YtelipeoilcepbaaDoorWp0
import Derived.Test.YtelipeoilcepbaaDoorWp16
namespace Go.Proofs.YtelipeoilcepbaaDoor
open Go.RowKit
open Wl (B8)
set_option linter.unusedVariables false
set_option linter.unusedSimpArgs false
set_option maxRecDepth 20000
open Wl (chain grp Gp live nxOk)
def rowG (g : Gp) : List Value := [.int .i64 (g.s.no : Int), .int .i64 (g.P : Int), .int .i64 (g.s.cost : Int)]
theorem rowG_one (g : Gp) : ∀ u ∈ rowG g, u.oneCell' = true := fun v hv => by
  simp [rowG] at hv; rcases hv with rfl | rfl | rfl <;> rfl
theorem elmG : Elm Tryd.prog 102 107 3 24 (.agg #[.int .i64 0, .int .i64 0, .int .i64 0]) := ⟨Tryd.underlying102, by kernel_rfl, rfl, by decide, by decide⟩
theorem build_grp (a b c : Int) (W : World) : (Instr.build 107 #[(0, .int .i64 a), (1, .int .i64 b), (2, .int .i64 c)]).run Tryd.prog W = .ok (.agg #[.int .i64 a, .int .i64 b, .int .i64 c]) W := by kernel_rfl
def nxV : Option Nat → Int
  | none => -1
  | some n => n
def GroupsP (w : World) (on : Bool) (D : Wl.Disk) (sg first : Nat) (r : Ending) (w' : World) : Prop :=
  Turn nowhere w w' ∧ ((on = false ∧ r = .returned (.tuple #[.slice none 0 0, .int .i64 2])) ∨
    (on = true ∧ (∃ g ∈ live D (2 + 64 * sg) first, Wl.unpack Crc.sumN g.s g.t = none) ∧ r = .returned (.tuple #[.slice none 0 0, .int .i64 4])) ∨
    (on = true ∧ (∀ g ∈ live D (2 + 64 * sg) first, Wl.unpack Crc.sumN g.s g.t ≠ none) ∧ ∃ v, r = .returned (.tuple #[v, .int .i64 0]) ∧ Orw w' w.heap.size 107 3 v ((live D (2 + 64 * sg) first).map rowG)))
structure Run (D : Wl.Disk) (E B : Nat) (done : List Gp) (k P : Nat) (nx : Option Nat) : Prop where
  eq : chain D E 65 B none = done ++ chain D E k P nx
  ge : B ≤ P
  le : P ≤ E
  fuel : E < P + k
theorem Run.next {D : Wl.Disk} {E B k P : Nat} {nx : Option Nat} {done : List Gp} {s : Wl.Stamp} {t : B8} (h : Run D E B done (k + 1) P nx) (hg : grp D E P = some (s, t)) (hn : nxOk nx s.no = true) : Run D E B (done ++ [⟨s, P, t⟩]) k (P + s.cost) (some (s.no + 1)) := by
  have h1 := Wl.grp_some.1 hg
  refine ⟨by rw [h.eq, Wl.chain_some hg hn]; simp, by have := h.ge; omega, h1.2.2.1, by have := h.fuel; have := h1.2.1; omega⟩
theorem Run.stop {D : Wl.Disk} {E B k P : Nat} {nx : Option Nat} {done : List Gp} (h : Run D E B done k P nx) (hs : grp D E P = none ∨ ∃ s t, grp D E P = some (s, t) ∧ nxOk nx s.no = false) : chain D E 65 B none = done := by
  rw [h.eq]
  cases k with
  | zero => have := h.fuel; have := h.le; omega
  | succ k =>
    rcases hs with hs | ⟨s, t, hg, hn⟩
    · rw [Wl.chain_none hs, List.append_nil]
    · rw [Wl.chain_stop hg hn, List.append_nil]
theorem Run.end_ {D : Wl.Disk} {E B k P : Nat} {nx : Option Nat} {done : List Gp} (h : Run D E B done k P nx) (hp : E ≤ P) : chain D E 65 B none = done := by
  refine h.stop (.inl ?_)
  cases hg : grp D E P with
  | none => rfl
  | some x =>
    obtain ⟨s, t⟩ := x
    have := Wl.grp_some.1 hg
    omega
theorem Run.mem {D : Wl.Disk} {E B k P : Nat} {nx : Option Nat} {done : List Gp} {g : Gp} (h : Run D E B done k P nx) (hg : g ∈ done) : g ∈ chain D E 65 B none := by rw [h.eq]; exact List.mem_append_left _ hg
def keepF (first : Nat) (l : List Gp) : List Gp := l.filter fun g => decide (first ≤ g.s.no)
theorem keepF_snoc (first : Nat) (l : List Gp) (g : Gp) : keepF first (l ++ [g]) = keepF first l ++ (if first ≤ g.s.no then [g] else []) := by
  unfold keepF
  rw [List.filter_append]
  by_cases h : first ≤ g.s.no <;> simp [h]
theorem live_keep {D : Wl.Disk} {sg first : Nat} {l : List Gp} (h : chain D (2 + 64 * (sg + 1)) 65 (2 + 64 * sg) none = l) : live D (2 + 64 * sg) first = keepF first l := by
  unfold live keepF
  rw [show 2 + 64 * sg + 64 = 2 + 64 * (sg + 1) by omega, h]
theorem gx_build3 {P : Program} {a : Act} {o : Oper} {t : TypeId} {x y z : Operand} {u v q r : Value} {W : World} (ho : o.op = .build t #[(0, x), (1, y), (2, z)]) (hx : a.eval x = u) (hy : a.eval y = v) (hz : a.eval z = q)
    (h : (Instr.build t #[(0, u), (1, v), (2, q)]).run P W = .ok r W) : (execOp a.eval o).run P W = .ok (.value r) W := exec_build3 ho hx hy hz h
set_option maxRecDepth 20000 in
set_option maxHeartbeats 4000000 in
theorem groups_walk {w : World} {p : Nat} {F : Nat → Prop} {s : AP} {K : Nat} (h : PlantAt w p F s K) (htab : Tab w) (i : Nat) (d : AD) (hd : s.ds[i]? = some d) (sg first : Nat) (hE : ((2 + 64 * (sg + 1) : Nat) : Int) ≤ d.n) (hf : first ≤ 1099511627776) :
    Calls Tryd.prog 57 #[.agg (dskA p i), .int .i64 (sg : Int), .int .i64 (first : Int)] w fun r w' => GroupsP w s.on (dkD d) sg first r w' := by
  have HPL := Lib.hid h
  have HTAB := Lib.hid htab
  have HD := Lib.hid hd
  have HEN := Lib.hid hE
  have ys : sg ≤ 1022 := by have := h.dn hd; omega
  obtain ⟨D, hDD⟩ : ∃ D, D = dkD d := ⟨_, rfl⟩
  rw [← hDD]
  have HDD := Lib.hid hDD
  have HLK := Lib.hid (fun (l : List Gp) (hl : chain D (2 + 64 * (sg + 1)) 65 (2 + 64 * sg) none = l) => live_keep (first := first) hl)
  obtain ⟨E, hEE⟩ : ∃ E, E = 2 + 64 * (sg + 1) := ⟨_, rfl⟩
  obtain ⟨B, hBB⟩ : ∃ B, B = 2 + 64 * sg := ⟨_, rfl⟩
  have HEE := Lib.hid hEE
  have HBB := Lib.hid hBB
  have hBE : E = B + 64 := by omega
  have yE : E ≤ 65538 := by omega
  clear h hd hE hEE hBB hDD htab
  go_enter Tryd.func57, Tryd.ntmps57
  go_upto_region 0 with fail
  refine wp_region_lit ?_
  refine wpList_run (v := .pointer (some ⟨(w).heap.size, 0, none⟩)) (w' := (w).alloc (.cells (dskA p i) 60)) (wanted_none rfl) (gx_box rfl rfl (box_dsk p i _)) ?_;simp only [zz];refine nR (.slice none 0 0) (gx_assign rfl rfl) ?_;simp only [zz];refine nR (.int .i64 0) (gx_assign rfl rfl) ?_;simp only [zz]
  have hb_k := Blk.new (w) 60 (dskA p i)
  have ht_ := (Turn.refl nowhere (w)).alloc (.cells (dskA p i) 60)
  obtain ⟨n0_, hn0_⟩ : ∃ n, n = (w).heap.size := ⟨_, rfl⟩
  have hz_k : (w).heap.size = n0_ + 0 := by rw [hn0_]; simp
  obtain ⟨k, hg_⟩ : ∃ g, g = (w).heap.size := ⟨_, rfl⟩
  rw [← hg_] at hb_k hz_k ⊢
  clear hg_
  generalize (w).alloc (.cells (dskA p i) 60) = w1 at *
  have HT1 := Lib.hid ht_
  clear ht_
  have HBk := Lib.hid hb_k
  have HLk := Lib.hid (show (w).heap.size ≤ k from by omega)
  clear hb_k
  clear hn0_ hz_k
  clear n0_
  go_upto_region 1 with fail
  refine wp_region_lit ?_
  refine nR (.slice none 0 0) (gx_assign rfl rfl) ?_;simp only [zz]
  go_upto_region 2 with fail
  refine wp_region_lit ?_
  refine nR (.int .i64 (-1)) (gx_assign rfl rfl) ?_;simp only [zz]
  go_upto_region 3 with fail
  refine wp_region_lit ?_
  refine nR (.int .i64 (sg : Int)) (exec_move rfl rfl) ?_;simp only [zz]
  refine wpList_op rfl fun K9 HK9 => ?_
  go_wp2_with fail
  refine (begin_walk w1 sg (by omega)).mono ?_
  rintro e w1 ⟨rfl, rfl⟩
  refine HK9.out _ _ ?_
  clear HK9
  try simp only [zz]
  rw [← HBB.out]
  refine nR (.int .i64 (B : Int)) (gx_assign rfl rfl) ?_;simp only [zz]
  have HBW := Lib.hid HBk.out.lt
  have HW1 := Lib.hid HT1.out.size
  have HTA1 := Lib.hid (tab_still HTAB.out HT1.out)
  have HPL1 := Lib.hid (HPL.out.turn HT1.out fun _ _ e => e)
  go_wp2_with fail
  go_loopg [8, 9, 10] 65 (fun gk lv nv pv wr => ∃ (P : Nat) (nx : Option Nat) (done : List Gp), pv = .int .i64 (P : Int) ∧ nv = .int .i64 (nxV nx) ∧ Run D E B done gk P nx ∧ (∀ m, nx = some m → m ≤ 4294967296) ∧ (∀ g ∈ keepF first done, Wl.unpack Crc.sumN g.s g.t ≠ none) ∧ (P = B ∨ s.on = true) ∧ done.length + gk = 65 ∧ Orw wr w1.heap.size 107 3 lv ((keepF first done).map rowG) ∧ Turn nowhere w1 wr)
  case atStart => exact ⟨B, none, [], rfl, rfl, ⟨rfl, Nat.le_refl _, by omega, by omega⟩, (fun m e => by cases e), (fun g hg => by simp [keepF] at hg), .inl rfl, rfl, Orw.nil _ _ _ _, Turn.refl _ _⟩
  obtain ⟨P, nx, done, rfl, rfl, hrun, hnx, hun, hox, hln, hrow, htr⟩ := hrel
  have HRUN := Lib.hid hrun
  have HNX := Lib.hid hnx
  have HUN := Lib.hid hun
  have HOX := Lib.hid hox
  have HLN := Lib.hid hln
  have HROW := Lib.hid hrow
  have HTR := Lib.hid htr
  have HBK := Lib.hid (HBk.out.turn htr fun e => e)
  have yP : B ≤ P := hrun.ge
  have yP2 : P ≤ E := hrun.le
  have ynx : -1 ≤ nxV nx ∧ nxV nx ≤ 4294967296 := by
    cases nx with
    | none => exact ⟨by decide, by decide⟩
    | some m => have := hnx m rfl; show -1 ≤ (m : Int) ∧ (m : Int) ≤ 4294967296; omega
  obtain ⟨z, hz⟩ : ∃ z, z = nxV nx := ⟨_, rfl⟩
  rw [← hz] at ynx ⊢
  have HZ := Lib.hid hz
  clear hrun hnx hun hox hln hrow htr hz
  by_cases hlt : P < E
  · have HLT := Lib.hid hlt
    go_upto_region 4 with fail
    refine wp_region_lit ?_
    refine nR (.int .i64 (P : Int)) (exec_move rfl rfl) ?_;simp only [zz];refine nR (.int .i64 (sg : Int)) (exec_move rfl rfl) ?_;simp only [zz];refine nR (.int .i64 ((sg + 1 : Nat) : Int)) (ix_add rfl rfl rfl (by omega) (by omega)) ?_;simp only [zz]
    refine wpList_op rfl fun K9 HK9 => ?_
    go_wp2_with fail
    refine (begin_walk wr (sg + 1) (by omega)).mono ?_
    rintro e wr ⟨rfl, rfl⟩
    refine HK9.out _ _ ?_
    clear HK9
    try simp only [zz]
    rw [← HEE.out]
    refine nR (.bool true) (ix_lss rfl rfl rfl (decide_eq_true (by omega))) ?_;simp only [zz]
    go_upto_region 5 with fail
    refine wp_region_lit ?_
    refine nR (.agg (dskA p i)) (gx_loads rfl rfl (blk_range HBK.out) Tryd.underlying60 rfl (by rw [size_dsk]; rfl)) ?_;simp only [zz];refine nR (.int .i64 (P : Int)) (exec_move rfl rfl) ?_;simp only [zz]
    have hseg : (P - 2) / 64 = sg := by have e1 := HBB.out; have e2 := HEE.out; omega
    refine wpList_op (wanted_none rfl) fun K9 HK9 => ?_
    go_wp2_with fail
    refine (group_walk (HPL1.out.turn HTR.out fun _ _ e => e) i d HD.out P (by have := HBB.out; omega) (by rw [hseg]; exact HEN.out)).mono ?_
    rw [hseg, ← HEE.out, ← HDD.out]
    clear hseg
    rintro e w3 ⟨ht, hcase⟩
    have HT3 := Lib.hid (HTR.out.trans ht fun _ _ e => e)
    have HROW3 := Lib.hid (HROW.out.still ht)
    have HBK3 := Lib.hid (HBK.out.turn ht fun e => e)
    have HSZ3 := Lib.hid ht.size
    clear ht HROW HTR HBK
    rcases hcase with ⟨hoff, rfl⟩ | ⟨hon, hg, rfl⟩ | ⟨hon, st, tx, A9, c9, hg, rfl, hown⟩
    · refine HK9.out _ _ ?_
      clear HK9
      try simp only [zz]
      refine nR (.tuple #[.agg (stA ⟨0, 0, 0, 0⟩), .slice none 0 0, .int .i64 2]) (exec_move rfl rfl) ?_;simp only [zz];refine nR (.agg (stA ⟨0, 0, 0, 0⟩)) (ix_extract rfl rfl rfl) ?_;simp only [zz];refine nR (.slice none 0 0) (ix_extract rfl rfl rfl) ?_;simp only [zz];refine nR (.int .i64 2) (ix_extract rfl rfl rfl) ?_;simp only [zz];refine wpList_run (v := .pointer (some ⟨w3.heap.size, 0, none⟩)) (w' := w3.alloc (.cells (stA ⟨0, 0, 0, 0⟩) 67)) (wanted_none rfl) (gx_alloc rfl (zero_st _)) ?_;simp only [zz]
      have hb_ := Blk.new w3 67 (stA ⟨0, 0, 0, 0⟩)
      have ht_ := (Turn.refl nowhere w3).alloc (.cells (stA ⟨0, 0, 0, 0⟩) 67)
      obtain ⟨q, hg_⟩ : ∃ g, g = w3.heap.size := ⟨_, rfl⟩
      rw [← hg_] at hb_ ⊢
      have HLq := Lib.hid (show w3.heap.size ≤ q from by omega)
      clear hg_
      generalize w3.alloc (.cells (stA ⟨0, 0, 0, 0⟩) 67) = w4 at *
      have HBq := Lib.hid hb_
      have HT4 := Lib.hid ht_
      clear hb_ ht_
      refine wpList_store_row (wanted_none rfl) 67 (.tmp 11) (.tmp 27) rfl (stA ⟨0, 0, 0, 0⟩) HBq.out rfl rfl (rfl) (by rw [size_st] <;> rfl) (stA_one _) ?_
      intro w5 hb_ ht_
      have HBq5 := Lib.hid hb_
      have HT5 := Lib.hid ht_
      clear hb_ ht_
      simp only [zz]
      have HT35 := Lib.hid (HT4.out.trans HT5.out fun k hk e => by have := HLq.out; have e : k = q := e; omega)
      have HT5w := Lib.hid (HT3.out.trans HT35.out fun _ _ e => e)
      have HROW5 := Lib.hid (HROW3.out.still HT35.out)
      clear HT4 HT5 HT35 HT3 HROW3 HBK3 HBq
      refine nR (.slice none 0 0) (gx_assign rfl rfl) ?_;simp only [zz];refine nR (.int .i64 2) (gx_assign rfl rfl) ?_;simp only [zz]
      go_upto_region 6 with fail
      refine wp_region_lit ?_
      refine nR (.int .i64 2) (exec_move rfl rfl) ?_;simp only [zz];refine nR (.bool true) (ix_neq rfl rfl rfl (by decide)) ?_;simp only [zz]
      go_upto_region 7 with fail
      refine wp_region_lit ?_
      refine nR (.int .i64 2) (exec_move rfl rfl) ?_;simp only [zz];refine nR (.slice none 0 0) (gx_assign rfl rfl) ?_;simp only [zz];refine nR (.int .i64 2) (gx_assign rfl rfl) ?_;simp only [zz]
      go_wp2_with fail
      go_ret2
      exact ⟨HT1.out.trans HT5w.out fun _ _ e => e, .inl ⟨hoff, rfl⟩⟩
    · refine HK9.out _ _ ?_
      clear HK9
      try simp only [zz]
      refine nR (.tuple #[.agg (stA ⟨0, 0, 0, 0⟩), .slice none 0 0, .int .i64 0]) (exec_move rfl rfl) ?_;simp only [zz];refine nR (.agg (stA ⟨0, 0, 0, 0⟩)) (ix_extract rfl rfl rfl) ?_;simp only [zz];refine nR (.slice none 0 0) (ix_extract rfl rfl rfl) ?_;simp only [zz];refine nR (.int .i64 0) (ix_extract rfl rfl rfl) ?_;simp only [zz];refine wpList_run (v := .pointer (some ⟨w3.heap.size, 0, none⟩)) (w' := w3.alloc (.cells (stA ⟨0, 0, 0, 0⟩) 67)) (wanted_none rfl) (gx_alloc rfl (zero_st _)) ?_;simp only [zz]
      have hb_ := Blk.new w3 67 (stA ⟨0, 0, 0, 0⟩)
      have ht_ := (Turn.refl nowhere w3).alloc (.cells (stA ⟨0, 0, 0, 0⟩) 67)
      obtain ⟨q, hg_⟩ : ∃ g, g = w3.heap.size := ⟨_, rfl⟩
      rw [← hg_] at hb_ ⊢
      have HLq := Lib.hid (show w3.heap.size ≤ q from by omega)
      clear hg_
      generalize w3.alloc (.cells (stA ⟨0, 0, 0, 0⟩) 67) = w4 at *
      have HBq := Lib.hid hb_
      have HT4 := Lib.hid ht_
      clear hb_ ht_
      refine wpList_store_row (wanted_none rfl) 67 (.tmp 11) (.tmp 27) rfl (stA ⟨0, 0, 0, 0⟩) HBq.out rfl rfl (rfl) (by rw [size_st] <;> rfl) (stA_one _) ?_
      intro w5 hb_ ht_
      have HBq5 := Lib.hid hb_
      have HT5 := Lib.hid ht_
      clear hb_ ht_
      simp only [zz]
      have HT35 := Lib.hid (HT4.out.trans HT5.out fun k hk e => by have := HLq.out; have e : k = q := e; omega)
      have HT5w := Lib.hid (HT3.out.trans HT35.out fun _ _ e => e)
      have HROW5 := Lib.hid (HROW3.out.still HT35.out)
      clear HT4 HT5 HT35 HT3 HROW3 HBK3 HBq
      refine nR (.slice none 0 0) (gx_assign rfl rfl) ?_;simp only [zz];refine nR (.int .i64 0) (gx_assign rfl rfl) ?_;simp only [zz]
      go_upto_region 6 with fail
      refine wp_region_lit ?_
      refine nR (.int .i64 0) (exec_move rfl rfl) ?_;simp only [zz];refine nR (.bool false) (ix_neq rfl rfl rfl (by decide)) ?_;simp only [zz]
      go_upto_region 8 with fail
      first
      | (rename_i K9 hK9; have HKC := Lib.hid hK9; clear hK9)
      | (rename_i K9 hK9 K8; have HKC := Lib.hid hK9; clear hK9)
      refine wp_region_lit ?_
      refine nR (.pointer (some ⟨q, 2, none⟩)) (exec_field (off := 0) (d := 2) rfl rfl (by kernel_rfl)) ?_;simp only [zz];refine nR (.int .i64 0) (exec_load1 rfl rfl (by kernel_rfl) (HBq5.out.cell 2)) ?_;simp only [zz];refine nR (.bool true) (ix_eql rfl rfl rfl (by decide)) ?_;simp only [zz];refine nR (.bool true) (exec_move rfl rfl) ?_;simp only [zz]
      go_wp2_with fail
      refine HKC.out _ _ ?_
      clear HKC
      go_upto_region 15 with fail
      refine wp_region_lit ?_
      refine nR (u8) (exec_move rfl rfl) ?_;simp only [zz];refine nR (u8) (gx_assign rfl rfl) ?_;simp only [zz];refine nR (.int .i64 0) (gx_assign rfl rfl) ?_;simp only [zz]
      go_wp2_with fail
      go_ret2
      have hlk := HLK.out done (by rw [← HEE.out, ← HBB.out]; exact HRUN.out.stop (.inl hg))
      have hlk2 : live D B first = keepF first done := by rw [HBB.out]; exact hlk
      refine ⟨HT1.out.trans (HT5w.out) fun _ _ e => e, .inr (.inr ⟨hon, ?_, _, rfl, ?_⟩)⟩
      · rw [hlk]; exact HUN.out
      · rw [hlk]; exact (HROW5.out).less HW1.out
    · have hgs := Wl.grp_some.1 hg
      have hsl := Wl.stamp_lt D P
      rw [← hgs.1] at hsl
      have HON := Lib.hid hon
      have HG := Lib.hid hg
      have HOW3 := Lib.hid hown
      have yc : 0 < st.cost ∧ P + st.cost ≤ E := ⟨by have := hgs.2.1; omega, hgs.2.2.1⟩
      have yn : st.no < 4294967296 := hsl.2.1
      have hc0 : ¬ st.cost = 0 := by omega
      clear hgs hsl hon hg hown
      refine HK9.out _ _ ?_
      clear HK9
      try simp only [zz]
      refine nR (.tuple #[.agg (stA st), .slice A9 (40 * st.cost) c9, .int .i64 0]) (exec_move rfl rfl) ?_;simp only [zz];refine nR (.agg (stA st)) (ix_extract rfl rfl rfl) ?_;simp only [zz];refine nR (.slice A9 (40 * st.cost) c9) (ix_extract rfl rfl rfl) ?_;simp only [zz];refine nR (.int .i64 0) (ix_extract rfl rfl rfl) ?_;simp only [zz];refine wpList_run (v := .pointer (some ⟨w3.heap.size, 0, none⟩)) (w' := w3.alloc (.cells (stA ⟨0, 0, 0, 0⟩) 67)) (wanted_none rfl) (gx_alloc rfl (zero_st _)) ?_;simp only [zz]
      have hb_ := Blk.new w3 67 (stA ⟨0, 0, 0, 0⟩)
      have ht_ := (Turn.refl nowhere w3).alloc (.cells (stA ⟨0, 0, 0, 0⟩) 67)
      obtain ⟨q, hg_⟩ : ∃ g, g = w3.heap.size := ⟨_, rfl⟩
      rw [← hg_] at hb_ ⊢
      have HLq := Lib.hid (show w3.heap.size ≤ q from by omega)
      clear hg_
      generalize w3.alloc (.cells (stA ⟨0, 0, 0, 0⟩) 67) = w4 at *
      have HBq := Lib.hid hb_
      have HT4 := Lib.hid ht_
      clear hb_ ht_
      refine wpList_store_row (wanted_none rfl) 67 (.tmp 11) (.tmp 27) rfl (stA st) HBq.out rfl rfl (rfl) (by rw [size_st] <;> rfl) (stA_one _) ?_
      intro w5 hb_ ht_
      have HBq5 := Lib.hid hb_
      have HT5 := Lib.hid ht_
      clear hb_ ht_
      simp only [zz]
      have HT35 := Lib.hid (HT4.out.trans HT5.out fun k hk e => by have := HLq.out; have e : k = q := e; omega)
      have HT5w := Lib.hid (HT3.out.trans HT35.out fun _ _ e => e)
      have HROW5 := Lib.hid (HROW3.out.still HT35.out)
      have HOW5 := Lib.hid (HOW3.out.still HT35.out)
      clear HT4 HT5 HT35 HT3 HROW3 HBK3 HBq
      refine nR (.slice A9 (40 * st.cost) c9) (gx_assign rfl rfl) ?_;simp only [zz];refine nR (.int .i64 0) (gx_assign rfl rfl) ?_;simp only [zz]
      go_upto_region 6 with fail
      refine wp_region_lit ?_
      refine nR (.int .i64 0) (exec_move rfl rfl) ?_;simp only [zz];refine nR (.bool false) (ix_neq rfl rfl rfl (by decide)) ?_;simp only [zz]
      by_cases hz1 : z = -1
      · go_upto_region 8 with fail
        first
        | (rename_i K9 hK9; have HKC := Lib.hid hK9; clear hK9)
        | (rename_i K9 hK9 K8; have HKC := Lib.hid hK9; clear hK9)
        refine wp_region_lit ?_
        refine nR (.pointer (some ⟨q, 2, none⟩)) (exec_field (off := 0) (d := 2) rfl rfl (by kernel_rfl)) ?_;simp only [zz];refine nR (.int .i64 (st.cost : Int)) (exec_load1 rfl rfl (by kernel_rfl) (HBq5.out.cell 2)) ?_;simp only [zz];refine nR (.bool false) (ix_eql rfl rfl rfl (decide_eq_false (by omega))) ?_;simp only [zz];refine nR (.bool false) (exec_move rfl rfl) ?_;simp only [zz];refine wpList_run (v := .int .i64 z) rfl (exec_move rfl rfl) ?_;simp only [zz];refine wpList_run (v := .bool false) rfl (ix_neq rfl rfl rfl (decide_eq_false (by omega))) ?_;simp only [zz];refine wpList_run (v := .bool false) rfl (exec_move rfl rfl) ?_;simp only [zz]
        go_wp2_with fail
        refine HKC.out _ _ ?_
        clear HKC
        have HNO := Lib.hid (show nxOk nx st.no = true by
          have := HZ.out
          cases nx with
          | none => rfl
          | some m => rw [hz1] at this; exact absurd this (by show ¬ (-1 : Int) = (m : Int); omega))
        obtain ⟨gk', rfl⟩ : ∃ g, gk = g + 1 := by
          have e1 := HRUN.out.fuel
          exact ⟨gk - 1, by omega⟩
        have HRN := Lib.hid (HRUN.out.next HG.out HNO.out)
        have HKS := Lib.hid (keepF_snoc first done ⟨st, P, tx⟩)
        by_cases hge : first ≤ st.no
        · go_upto_region 9 with fail
          refine wp_region_lit ?_
          refine nR (.pointer (some ⟨q, 1, none⟩)) (exec_field (off := 0) (d := 1) rfl rfl (by kernel_rfl)) ?_;simp only [zz];refine nR (.int .i64 (st.no : Int)) (exec_load1 rfl rfl (by kernel_rfl) (HBq5.out.cell 1)) ?_;simp only [zz];refine nR (.int .i64 (first : Int)) (exec_move rfl rfl) ?_;simp only [zz];refine nR (.bool true) (ix_geq rfl rfl rfl (decide_eq_true (by omega))) ?_;simp only [zz]
          have HKE := Lib.hid (show keepF first (done ++ [⟨st, P, tx⟩]) = keepF first done ++ [⟨st, P, tx⟩] by rw [HKS.out, if_pos hge])
          go_upto_region 10 with fail
          refine wp_region_lit ?_
          refine nR (.agg (stA st)) (gx_loads rfl rfl (blk_range HBq5.out) Tryd.underlying67 rfl (by rw [size_st]; rfl)) ?_;simp only [zz];refine nR (.slice A9 (40 * st.cost) c9) (exec_move rfl rfl) ?_;simp only [zz]
          refine wpList_op (wanted_none rfl) fun K9 HK9 => ?_
          go_wp2_with fail
          refine (unpack_walk w5 st A9 (40 * st.cost) c9 tx HOW5.out.bs.1 HOW5.out.bs.2.1 (by omega) HOW5.out.bs.2.2 (tab_still HTA1.out HT5w.out)).mono ?_
          rintro e w6 ⟨ht, hcase⟩
          have HT6 := Lib.hid (HT5w.out.trans ht fun _ _ e => e)
          have HROW6 := Lib.hid (HROW5.out.still ht)
          have HBq6 := Lib.hid (HBq5.out.turn ht fun e => e)
          clear ht HROW5 HBq5 HT5w HOW5
          rcases hcase with ⟨hno, rfl⟩ | ⟨lr, gr, hyes, rfl, -, -⟩
          · refine HK9.out _ _ ?_
            clear HK9
            try simp only [zz]
            refine nR (.tuple #[.slice none 0 0, .bool false]) (exec_move rfl rfl) ?_;simp only [zz];refine nR (.slice none 0 0) (ix_extract rfl rfl rfl) ?_;simp only [zz];refine nR (.bool false) (ix_extract rfl rfl rfl) ?_;simp only [zz];refine nR (.slice none 0 0) (gx_assign rfl rfl) ?_;simp only [zz];refine nR (.bool false) (gx_assign rfl rfl) ?_;simp only [zz]
            go_upto_region 11 with fail
            refine wp_region_lit ?_
            refine nR (.bool false) (exec_move rfl rfl) ?_;simp only [zz];refine nR (.bool true) (ix_not (b := false) rfl rfl) ?_;simp only [zz]
            go_upto_region 12 with fail
            refine wp_region_lit ?_
            refine nR (.slice none 0 0) (gx_assign rfl rfl) ?_;simp only [zz];refine nR (.int .i64 4) (gx_assign rfl rfl) ?_;simp only [zz]
            go_wp2_with fail
            go_ret2
            have hlk := HLK.out _ (by rw [← HEE.out, ← HBB.out])
            refine ⟨HT1.out.trans HT6.out fun _ _ e => e, .inr (.inl ⟨HON.out, ⟨⟨st, P, tx⟩, ?_, hno⟩, rfl⟩)⟩
            rw [hlk]
            exact List.mem_filter.2 ⟨HRN.out.mem (by simp), decide_eq_true hge⟩
          · refine HK9.out _ _ ?_
            clear HK9
            try simp only [zz]
            refine nR (.tuple #[.slice (some ⟨gr, 0, none⟩) lr.length lr.length, .bool true]) (exec_move rfl rfl) ?_;simp only [zz];refine nR (.slice (some ⟨gr, 0, none⟩) lr.length lr.length) (ix_extract rfl rfl rfl) ?_;simp only [zz];refine nR (.bool true) (ix_extract rfl rfl rfl) ?_;simp only [zz];refine nR (.slice (some ⟨gr, 0, none⟩) lr.length lr.length) (gx_assign rfl rfl) ?_;simp only [zz];refine nR (.bool true) (gx_assign rfl rfl) ?_;simp only [zz]
            go_upto_region 11 with fail
            refine wp_region_lit ?_
            refine nR (.bool true) (exec_move rfl rfl) ?_;simp only [zz];refine nR (.bool false) (ix_not (b := true) rfl rfl) ?_;simp only [zz]
            go_upto_region 13 with fail
            refine wp_region_lit ?_
            refine nR (u8) (exec_move rfl rfl) ?_;simp only [zz];refine nR (.pointer (some ⟨q, 1, none⟩)) (exec_field (off := 0) (d := 1) rfl rfl (by kernel_rfl)) ?_;simp only [zz];refine nR (.int .i64 (st.no : Int)) (exec_load1 rfl rfl (by kernel_rfl) (HBq6.out.cell 1)) ?_;simp only [zz];refine nR (.int .i64 (P : Int)) (exec_move rfl rfl) ?_;simp only [zz];refine nR (.pointer (some ⟨q, 2, none⟩)) (exec_field (off := 0) (d := 2) rfl rfl (by kernel_rfl)) ?_;simp only [zz];refine nR (.int .i64 (st.cost : Int)) (exec_load1 rfl rfl (by kernel_rfl) (HBq6.out.cell 2)) ?_;simp only [zz];refine nR (.agg #[.int .i64 (st.no : Int), .int .i64 (P : Int), .int .i64 (st.cost : Int)]) (gx_build3 rfl rfl rfl rfl (build_grp _ _ _ _)) ?_;simp only [zz]
            have ha_ := (Turn.refl nowhere w6).alloc (.cells (rowG ⟨st, P, tx⟩).toArray 107)
            obtain ⟨A', c', w7, hap, hrow7, hgb, -⟩ := orw_grow elmG (ty := 102) (news := [rowG ⟨st, P, tx⟩]) (A := some ⟨w6.heap.size, 0, none⟩) (m := 1) (c := 1) (HROW6.out.still ha_) (Nat.le_trans HT6.out.size ha_.size) (rws_one (et := 107) (r := rowG ⟨st, P, tx⟩) rfl fun _ => trivial) (Fit.one rfl (rowG_one _)) (fun e => by cases e) (by rw [List.length_map]; have h1 := HLN.out; have h2 : (keepF first done).length ≤ done.length := List.length_filter_le _ _; omega)
            have hne := (HROW6.out.still ha_).ne (HBq6.out.turn ha_ fun e => e) (by decide)
            have HBq7 := Lib.hid ((HBq6.out.turn ha_ fun e => e).grown hgb (fun e => hne q e.symm rfl))
            have HT7 := Lib.hid (show Turn nowhere w1 w7 from (HT6.out.trans ha_ fun _ _ e => e).grown hgb fun g e hg => by have := (HROW6.out.lt e).1; omega)
            have HROW7 := Lib.hid (show Orw w7 w1.heap.size 107 3 (.slice A' (((keepF first done).map rowG).length + 1) c') ((keepF first (done ++ [⟨st, P, tx⟩])).map rowG) by rw [HKE.out, List.map_append]; exact hrow7)
            have HUN7 := Lib.hid (show ∀ g ∈ keepF first (done ++ [⟨st, P, tx⟩]), Wl.unpack Crc.sumN g.s g.t ≠ none by
              rw [HKE.out]
              intro g hg
              rcases List.mem_append.1 hg with hg | hg
              · exact HUN.out g hg
              · rw [List.mem_singleton.1 hg, hyes]; exact fun e => by cases e)
            have HAP := Lib.hid hap
            obtain ⟨v7, hv7⟩ : ∃ v, v = Value.slice A' (((keepF first done).map rowG).length + 1) c' := ⟨_, rfl⟩
            rw [← hv7] at HROW7 HAP
            clear hv7 hne hgb hrow7 hap ha_
            refine wpList_run (v := .slice (some ⟨w6.heap.size, 0, none⟩) 1 1) (w' := w6.alloc (.cells (rowG ⟨st, P, tx⟩).toArray 107)) (wanted_none rfl) (exec_buildSlice1 rfl rfl (build_one elmG (rowG ⟨st, P, tx⟩) rfl (by decide) _ rfl _)) ?_;simp only [zz];refine wpList_run (v := v7) (w' := w7) (wanted_none rfl) (exec_append rfl rfl rfl HAP.out) ?_;simp only [zz];refine nR (v7) (gx_assign rfl rfl) ?_;simp only [zz]
            go_upto_region 14 with fail
            refine wp_region_alw (fun W => Blk W q 67 (stA st)) (by kernel_rfl) ?_
            have hS0 : (fun W => Blk W q 67 (stA st)) w7.drew := HBq7.out.drew
            have HDt := Lib.hid ((Turn.refl nowhere w7).drew)
            generalize w7.drew = wt at *
            refine alw_take (i := 0) (v := .int .i64 (P : Int)) rfl (by kernel_rfl) (by kernel_rfl) (fun _ _ _ h => h) (.inl ⟨by rfl, fun W hW => exec_move rfl rfl⟩) hS0 ?_
            simp only [zz]
            refine alw_take (i := 1) (v := .pointer (some ⟨q, 2, none⟩)) rfl (by kernel_rfl) (by kernel_rfl) (fun _ _ _ h => h) (.inl ⟨by rfl, fun W hW => exec_field (off := 0) (d := 2) rfl rfl (by kernel_rfl)⟩) hS0 ?_
            simp only [zz]
            refine alw_take (i := 2) (v := .int .i64 (st.cost : Int)) rfl (by kernel_rfl) (by kernel_rfl) (fun _ _ _ h => h) (.inl ⟨by rfl, fun W hW => exec_load1 rfl rfl (by kernel_rfl) (hW.cell 2)⟩) hS0 ?_
            simp only [zz]
            refine alw_take (i := 3) (v := .int .i64 ((P + st.cost : Nat) : Int)) rfl (by kernel_rfl) (by kernel_rfl) (fun _ _ _ h => h) (.inl ⟨by rfl, fun W hW => ix_add rfl rfl rfl (by omega) (by omega)⟩) hS0 ?_
            simp only [zz]
            refine alw_take (i := 4) (v := .pointer (some ⟨q, 1, none⟩)) rfl (by kernel_rfl) (by kernel_rfl) (fun _ _ _ h => h) (.inl ⟨by rfl, fun W hW => exec_field (off := 0) (d := 1) rfl rfl (by kernel_rfl)⟩) hS0 ?_
            simp only [zz]
            refine alw_take (i := 5) (v := .int .i64 (st.no : Int)) rfl (by kernel_rfl) (by kernel_rfl) (fun _ _ _ h => h) (.inl ⟨by rfl, fun W hW => exec_load1 rfl rfl (by kernel_rfl) (hW.cell 1)⟩) hS0 ?_
            simp only [zz]
            refine alw_take (i := 6) (v := .int .i64 ((st.no + 1 : Nat) : Int)) rfl (by kernel_rfl) (by kernel_rfl) (fun _ _ _ h => h) (.inl ⟨by rfl, fun W hW => ix_add rfl rfl rfl (by omega) (by omega)⟩) hS0 ?_
            simp only [zz]
            refine alw_take (i := 7) (v := .int .i64 ((P + st.cost : Nat) : Int)) rfl (by kernel_rfl) (by kernel_rfl) (fun _ _ _ h => h) (.inl ⟨by rfl, fun W hW => gx_assign rfl rfl⟩) hS0 ?_
            simp only [zz]
            refine alw_take (i := 8) (v := .int .i64 ((st.no + 1 : Nat) : Int)) rfl (by kernel_rfl) (by kernel_rfl) (fun _ _ _ h => h) (.inl ⟨by rfl, fun W hW => gx_assign rfl rfl⟩) hS0 ?_
            simp only [zz]
            refine alw_done rfl ?_
            refine NoPanic.normal ?_
            clear hS0
            try simp only [zz]
            go_wp2_with fail
            go_roundg gk'
            case measure => omega
            case rel => exact ⟨P + st.cost, some (st.no + 1), done ++ [⟨st, P, tx⟩], rfl, rfl, HRN.out, (fun m e => by injection e with e; omega), HUN7.out, .inr HON.out, by rw [List.length_append]; have := HLN.out; simp; omega, HROW7.out.still HDt.out, HT7.out.trans HDt.out fun _ _ e => e⟩
        · go_upto_region 9 with fail
          refine wp_region_lit ?_
          refine nR (.pointer (some ⟨q, 1, none⟩)) (exec_field (off := 0) (d := 1) rfl rfl (by kernel_rfl)) ?_;simp only [zz];refine nR (.int .i64 (st.no : Int)) (exec_load1 rfl rfl (by kernel_rfl) (HBq5.out.cell 1)) ?_;simp only [zz];refine nR (.int .i64 (first : Int)) (exec_move rfl rfl) ?_;simp only [zz];refine nR (.bool false) (ix_geq rfl rfl rfl (decide_eq_false (by omega))) ?_;simp only [zz]
          have HKE := Lib.hid (show keepF first (done ++ [⟨st, P, tx⟩]) = keepF first done by rw [HKS.out, if_neg hge, List.append_nil])
          go_upto_region 14 with fail
          refine wp_region_alw (fun W => Blk W q 67 (stA st)) (by kernel_rfl) ?_
          have hS0 : (fun W => Blk W q 67 (stA st)) w5.drew := HBq5.out.drew
          have HDt := Lib.hid ((Turn.refl nowhere w5).drew)
          generalize w5.drew = wt at *
          refine alw_take (i := 0) (v := .int .i64 (P : Int)) rfl (by kernel_rfl) (by kernel_rfl) (fun _ _ _ h => h) (.inl ⟨by rfl, fun W hW => exec_move rfl rfl⟩) hS0 ?_
          simp only [zz]
          refine alw_take (i := 1) (v := .pointer (some ⟨q, 2, none⟩)) rfl (by kernel_rfl) (by kernel_rfl) (fun _ _ _ h => h) (.inl ⟨by rfl, fun W hW => exec_field (off := 0) (d := 2) rfl rfl (by kernel_rfl)⟩) hS0 ?_
          simp only [zz]
          refine alw_take (i := 2) (v := .int .i64 (st.cost : Int)) rfl (by kernel_rfl) (by kernel_rfl) (fun _ _ _ h => h) (.inl ⟨by rfl, fun W hW => exec_load1 rfl rfl (by kernel_rfl) (hW.cell 2)⟩) hS0 ?_
          simp only [zz]
          refine alw_take (i := 3) (v := .int .i64 ((P + st.cost : Nat) : Int)) rfl (by kernel_rfl) (by kernel_rfl) (fun _ _ _ h => h) (.inl ⟨by rfl, fun W hW => ix_add rfl rfl rfl (by omega) (by omega)⟩) hS0 ?_
          simp only [zz]
          refine alw_take (i := 4) (v := .pointer (some ⟨q, 1, none⟩)) rfl (by kernel_rfl) (by kernel_rfl) (fun _ _ _ h => h) (.inl ⟨by rfl, fun W hW => exec_field (off := 0) (d := 1) rfl rfl (by kernel_rfl)⟩) hS0 ?_
          simp only [zz]
          refine alw_take (i := 5) (v := .int .i64 (st.no : Int)) rfl (by kernel_rfl) (by kernel_rfl) (fun _ _ _ h => h) (.inl ⟨by rfl, fun W hW => exec_load1 rfl rfl (by kernel_rfl) (hW.cell 1)⟩) hS0 ?_
          simp only [zz]
          refine alw_take (i := 6) (v := .int .i64 ((st.no + 1 : Nat) : Int)) rfl (by kernel_rfl) (by kernel_rfl) (fun _ _ _ h => h) (.inl ⟨by rfl, fun W hW => ix_add rfl rfl rfl (by omega) (by omega)⟩) hS0 ?_
          simp only [zz]
          refine alw_take (i := 7) (v := .int .i64 ((P + st.cost : Nat) : Int)) rfl (by kernel_rfl) (by kernel_rfl) (fun _ _ _ h => h) (.inl ⟨by rfl, fun W hW => gx_assign rfl rfl⟩) hS0 ?_
          simp only [zz]
          refine alw_take (i := 8) (v := .int .i64 ((st.no + 1 : Nat) : Int)) rfl (by kernel_rfl) (by kernel_rfl) (fun _ _ _ h => h) (.inl ⟨by rfl, fun W hW => gx_assign rfl rfl⟩) hS0 ?_
          simp only [zz]
          refine alw_done rfl ?_
          refine NoPanic.normal ?_
          clear hS0
          try simp only [zz]
          go_wp2_with fail
          go_roundg gk'
          case measure => omega
          case rel => exact ⟨P + st.cost, some (st.no + 1), done ++ [⟨st, P, tx⟩], rfl, rfl, HRN.out, (fun m e => by injection e with e; omega), by rw [HKE.out]; exact HUN.out, .inr HON.out, by rw [List.length_append]; have := HLN.out; simp; omega, (show Orw w5 w1.heap.size 107 3 u8 ((keepF first (done ++ [⟨st, P, tx⟩])).map rowG) by rw [HKE.out]; exact HROW5.out).still HDt.out, HT5w.out.trans HDt.out fun _ _ e => e⟩
      · obtain ⟨m, rfl⟩ : ∃ m, nx = some m := by
          cases nx with
          | none => exact absurd HZ.out hz1
          | some m => exact ⟨m, rfl⟩
        have hzm : z = (m : Int) := HZ.out
        by_cases hnm : st.no = m
        · have HNM := Lib.hid hnm
          clear hnm
          go_upto_region 8 with fail
          refine wp_region_lit ?_
          refine nR (.pointer (some ⟨q, 2, none⟩)) (exec_field (off := 0) (d := 2) rfl rfl (by kernel_rfl)) ?_;simp only [zz];refine nR (.int .i64 (st.cost : Int)) (exec_load1 rfl rfl (by kernel_rfl) (HBq5.out.cell 2)) ?_;simp only [zz];refine nR (.bool false) (ix_eql rfl rfl rfl (decide_eq_false (by omega))) ?_;simp only [zz];refine nR (.bool false) (exec_move rfl rfl) ?_;simp only [zz];refine wpList_run (v := .int .i64 z) rfl (exec_move rfl rfl) ?_;simp only [zz];refine wpList_run (v := .bool true) rfl (ix_neq rfl rfl rfl (decide_eq_true (by omega))) ?_;simp only [zz];refine wpList_run (v := .bool true) rfl (exec_move rfl rfl) ?_;simp only [zz];refine wpList_run (v := .pointer (some ⟨q, 1, none⟩)) rfl (exec_field (off := 0) (d := 1) rfl rfl (by kernel_rfl)) ?_;simp only [zz];refine wpList_run (v := .int .i64 (st.no : Int)) rfl (exec_load1 rfl rfl (by kernel_rfl) (HBq5.out.cell 1)) ?_;simp only [zz];refine wpList_run (v := .int .i64 z) rfl (exec_move rfl rfl) ?_;simp only [zz];refine wpList_run (v := .bool false) rfl (ix_neq rfl rfl rfl (decide_eq_false (by have := HNM.out; omega))) ?_;simp only [zz];refine wpList_run (v := .bool false) rfl (ix_pickT rfl rfl rfl) ?_;simp only [zz];refine nR (.bool false) (ix_pickF rfl rfl rfl) ?_;simp only [zz]
          have HNO := Lib.hid (show nxOk (some m) st.no = true from decide_eq_true HNM.out)
          obtain ⟨gk', rfl⟩ : ∃ g, gk = g + 1 := by
            have e1 := HRUN.out.fuel
            exact ⟨gk - 1, by omega⟩
          have HRN := Lib.hid (HRUN.out.next HG.out HNO.out)
          have HKS := Lib.hid (keepF_snoc first done ⟨st, P, tx⟩)
          by_cases hge : first ≤ st.no
          · go_upto_region 9 with fail
            refine wp_region_lit ?_
            refine nR (.pointer (some ⟨q, 1, none⟩)) (exec_field (off := 0) (d := 1) rfl rfl (by kernel_rfl)) ?_;simp only [zz];refine nR (.int .i64 (st.no : Int)) (exec_load1 rfl rfl (by kernel_rfl) (HBq5.out.cell 1)) ?_;simp only [zz];refine nR (.int .i64 (first : Int)) (exec_move rfl rfl) ?_;simp only [zz];refine nR (.bool true) (ix_geq rfl rfl rfl (decide_eq_true (by omega))) ?_;simp only [zz]
            have HKE := Lib.hid (show keepF first (done ++ [⟨st, P, tx⟩]) = keepF first done ++ [⟨st, P, tx⟩] by rw [HKS.out, if_pos hge])
            go_upto_region 10 with fail
            refine wp_region_lit ?_
            refine nR (.agg (stA st)) (gx_loads rfl rfl (blk_range HBq5.out) Tryd.underlying67 rfl (by rw [size_st]; rfl)) ?_;simp only [zz];refine nR (.slice A9 (40 * st.cost) c9) (exec_move rfl rfl) ?_;simp only [zz]
            refine wpList_op (wanted_none rfl) fun K9 HK9 => ?_
            go_wp2_with fail
            refine (unpack_walk w5 st A9 (40 * st.cost) c9 tx HOW5.out.bs.1 HOW5.out.bs.2.1 (by omega) HOW5.out.bs.2.2 (tab_still HTA1.out HT5w.out)).mono ?_
            rintro e w6 ⟨ht, hcase⟩
            have HT6 := Lib.hid (HT5w.out.trans ht fun _ _ e => e)
            have HROW6 := Lib.hid (HROW5.out.still ht)
            have HBq6 := Lib.hid (HBq5.out.turn ht fun e => e)
            clear ht HROW5 HBq5 HT5w HOW5
            rcases hcase with ⟨hno, rfl⟩ | ⟨lr, gr, hyes, rfl, -, -⟩
            · refine HK9.out _ _ ?_
              clear HK9
              try simp only [zz]
              refine nR (.tuple #[.slice none 0 0, .bool false]) (exec_move rfl rfl) ?_;simp only [zz];refine nR (.slice none 0 0) (ix_extract rfl rfl rfl) ?_;simp only [zz];refine nR (.bool false) (ix_extract rfl rfl rfl) ?_;simp only [zz];refine nR (.slice none 0 0) (gx_assign rfl rfl) ?_;simp only [zz];refine nR (.bool false) (gx_assign rfl rfl) ?_;simp only [zz]
              go_upto_region 11 with fail
              refine wp_region_lit ?_
              refine nR (.bool false) (exec_move rfl rfl) ?_;simp only [zz];refine nR (.bool true) (ix_not (b := false) rfl rfl) ?_;simp only [zz]
              go_upto_region 12 with fail
              refine wp_region_lit ?_
              refine nR (.slice none 0 0) (gx_assign rfl rfl) ?_;simp only [zz];refine nR (.int .i64 4) (gx_assign rfl rfl) ?_;simp only [zz]
              go_wp2_with fail
              go_ret2
              have hlk := HLK.out _ (by rw [← HEE.out, ← HBB.out])
              refine ⟨HT1.out.trans HT6.out fun _ _ e => e, .inr (.inl ⟨HON.out, ⟨⟨st, P, tx⟩, ?_, hno⟩, rfl⟩)⟩
              rw [hlk]
              exact List.mem_filter.2 ⟨HRN.out.mem (by simp), decide_eq_true hge⟩
            · refine HK9.out _ _ ?_
              clear HK9
              try simp only [zz]
              refine nR (.tuple #[.slice (some ⟨gr, 0, none⟩) lr.length lr.length, .bool true]) (exec_move rfl rfl) ?_;simp only [zz];refine nR (.slice (some ⟨gr, 0, none⟩) lr.length lr.length) (ix_extract rfl rfl rfl) ?_;simp only [zz];refine nR (.bool true) (ix_extract rfl rfl rfl) ?_;simp only [zz];refine nR (.slice (some ⟨gr, 0, none⟩) lr.length lr.length) (gx_assign rfl rfl) ?_;simp only [zz];refine nR (.bool true) (gx_assign rfl rfl) ?_;simp only [zz]
              go_upto_region 11 with fail
              refine wp_region_lit ?_
              refine nR (.bool true) (exec_move rfl rfl) ?_;simp only [zz];refine nR (.bool false) (ix_not (b := true) rfl rfl) ?_;simp only [zz]
              go_upto_region 13 with fail
              refine wp_region_lit ?_
              refine nR (u8) (exec_move rfl rfl) ?_;simp only [zz];refine nR (.pointer (some ⟨q, 1, none⟩)) (exec_field (off := 0) (d := 1) rfl rfl (by kernel_rfl)) ?_;simp only [zz];refine nR (.int .i64 (st.no : Int)) (exec_load1 rfl rfl (by kernel_rfl) (HBq6.out.cell 1)) ?_;simp only [zz];refine nR (.int .i64 (P : Int)) (exec_move rfl rfl) ?_;simp only [zz];refine nR (.pointer (some ⟨q, 2, none⟩)) (exec_field (off := 0) (d := 2) rfl rfl (by kernel_rfl)) ?_;simp only [zz];refine nR (.int .i64 (st.cost : Int)) (exec_load1 rfl rfl (by kernel_rfl) (HBq6.out.cell 2)) ?_;simp only [zz];refine nR (.agg #[.int .i64 (st.no : Int), .int .i64 (P : Int), .int .i64 (st.cost : Int)]) (gx_build3 rfl rfl rfl rfl (build_grp _ _ _ _)) ?_;simp only [zz]
              have ha_ := (Turn.refl nowhere w6).alloc (.cells (rowG ⟨st, P, tx⟩).toArray 107)
              obtain ⟨A', c', w7, hap, hrow7, hgb, -⟩ := orw_grow elmG (ty := 102) (news := [rowG ⟨st, P, tx⟩]) (A := some ⟨w6.heap.size, 0, none⟩) (m := 1) (c := 1) (HROW6.out.still ha_) (Nat.le_trans HT6.out.size ha_.size) (rws_one (et := 107) (r := rowG ⟨st, P, tx⟩) rfl fun _ => trivial) (Fit.one rfl (rowG_one _)) (fun e => by cases e) (by rw [List.length_map]; have h1 := HLN.out; have h2 : (keepF first done).length ≤ done.length := List.length_filter_le _ _; omega)
              have hne := (HROW6.out.still ha_).ne (HBq6.out.turn ha_ fun e => e) (by decide)
              have HBq7 := Lib.hid ((HBq6.out.turn ha_ fun e => e).grown hgb (fun e => hne q e.symm rfl))
              have HT7 := Lib.hid (show Turn nowhere w1 w7 from (HT6.out.trans ha_ fun _ _ e => e).grown hgb fun g e hg => by have := (HROW6.out.lt e).1; omega)
              have HROW7 := Lib.hid (show Orw w7 w1.heap.size 107 3 (.slice A' (((keepF first done).map rowG).length + 1) c') ((keepF first (done ++ [⟨st, P, tx⟩])).map rowG) by rw [HKE.out, List.map_append]; exact hrow7)
              have HUN7 := Lib.hid (show ∀ g ∈ keepF first (done ++ [⟨st, P, tx⟩]), Wl.unpack Crc.sumN g.s g.t ≠ none by
                rw [HKE.out]
                intro g hg
                rcases List.mem_append.1 hg with hg | hg
                · exact HUN.out g hg
                · rw [List.mem_singleton.1 hg, hyes]; exact fun e => by cases e)
              have HAP := Lib.hid hap
              obtain ⟨v7, hv7⟩ : ∃ v, v = Value.slice A' (((keepF first done).map rowG).length + 1) c' := ⟨_, rfl⟩
              rw [← hv7] at HROW7 HAP
              clear hv7 hne hgb hrow7 hap ha_
              refine wpList_run (v := .slice (some ⟨w6.heap.size, 0, none⟩) 1 1) (w' := w6.alloc (.cells (rowG ⟨st, P, tx⟩).toArray 107)) (wanted_none rfl) (exec_buildSlice1 rfl rfl (build_one elmG (rowG ⟨st, P, tx⟩) rfl (by decide) _ rfl _)) ?_;simp only [zz];refine wpList_run (v := v7) (w' := w7) (wanted_none rfl) (exec_append rfl rfl rfl HAP.out) ?_;simp only [zz];refine nR (v7) (gx_assign rfl rfl) ?_;simp only [zz]
              go_upto_region 14 with fail
              refine wp_region_alw (fun W => Blk W q 67 (stA st)) (by kernel_rfl) ?_
              have hS0 : (fun W => Blk W q 67 (stA st)) w7.drew := HBq7.out.drew
              have HDt := Lib.hid ((Turn.refl nowhere w7).drew)
              generalize w7.drew = wt at *
              refine alw_take (i := 0) (v := .int .i64 (P : Int)) rfl (by kernel_rfl) (by kernel_rfl) (fun _ _ _ h => h) (.inl ⟨by rfl, fun W hW => exec_move rfl rfl⟩) hS0 ?_
              simp only [zz]
              refine alw_take (i := 1) (v := .pointer (some ⟨q, 2, none⟩)) rfl (by kernel_rfl) (by kernel_rfl) (fun _ _ _ h => h) (.inl ⟨by rfl, fun W hW => exec_field (off := 0) (d := 2) rfl rfl (by kernel_rfl)⟩) hS0 ?_
              simp only [zz]
              refine alw_take (i := 2) (v := .int .i64 (st.cost : Int)) rfl (by kernel_rfl) (by kernel_rfl) (fun _ _ _ h => h) (.inl ⟨by rfl, fun W hW => exec_load1 rfl rfl (by kernel_rfl) (hW.cell 2)⟩) hS0 ?_
              simp only [zz]
              refine alw_take (i := 3) (v := .int .i64 ((P + st.cost : Nat) : Int)) rfl (by kernel_rfl) (by kernel_rfl) (fun _ _ _ h => h) (.inl ⟨by rfl, fun W hW => ix_add rfl rfl rfl (by omega) (by omega)⟩) hS0 ?_
              simp only [zz]
              refine alw_take (i := 4) (v := .pointer (some ⟨q, 1, none⟩)) rfl (by kernel_rfl) (by kernel_rfl) (fun _ _ _ h => h) (.inl ⟨by rfl, fun W hW => exec_field (off := 0) (d := 1) rfl rfl (by kernel_rfl)⟩) hS0 ?_
              simp only [zz]
              refine alw_take (i := 5) (v := .int .i64 (st.no : Int)) rfl (by kernel_rfl) (by kernel_rfl) (fun _ _ _ h => h) (.inl ⟨by rfl, fun W hW => exec_load1 rfl rfl (by kernel_rfl) (hW.cell 1)⟩) hS0 ?_
              simp only [zz]
              refine alw_take (i := 6) (v := .int .i64 ((st.no + 1 : Nat) : Int)) rfl (by kernel_rfl) (by kernel_rfl) (fun _ _ _ h => h) (.inl ⟨by rfl, fun W hW => ix_add rfl rfl rfl (by omega) (by omega)⟩) hS0 ?_
              simp only [zz]
              refine alw_take (i := 7) (v := .int .i64 ((P + st.cost : Nat) : Int)) rfl (by kernel_rfl) (by kernel_rfl) (fun _ _ _ h => h) (.inl ⟨by rfl, fun W hW => gx_assign rfl rfl⟩) hS0 ?_
              simp only [zz]
              refine alw_take (i := 8) (v := .int .i64 ((st.no + 1 : Nat) : Int)) rfl (by kernel_rfl) (by kernel_rfl) (fun _ _ _ h => h) (.inl ⟨by rfl, fun W hW => gx_assign rfl rfl⟩) hS0 ?_
              simp only [zz]
              refine alw_done rfl ?_
              refine NoPanic.normal ?_
              clear hS0
              try simp only [zz]
              go_wp2_with fail
              go_roundg gk'
              case measure => omega
              case rel => exact ⟨P + st.cost, some (st.no + 1), done ++ [⟨st, P, tx⟩], rfl, rfl, HRN.out, (fun m e => by injection e with e; omega), HUN7.out, .inr HON.out, by rw [List.length_append]; have := HLN.out; simp; omega, HROW7.out.still HDt.out, HT7.out.trans HDt.out fun _ _ e => e⟩
          · go_upto_region 9 with fail
            refine wp_region_lit ?_
            refine nR (.pointer (some ⟨q, 1, none⟩)) (exec_field (off := 0) (d := 1) rfl rfl (by kernel_rfl)) ?_;simp only [zz];refine nR (.int .i64 (st.no : Int)) (exec_load1 rfl rfl (by kernel_rfl) (HBq5.out.cell 1)) ?_;simp only [zz];refine nR (.int .i64 (first : Int)) (exec_move rfl rfl) ?_;simp only [zz];refine nR (.bool false) (ix_geq rfl rfl rfl (decide_eq_false (by omega))) ?_;simp only [zz]
            have HKE := Lib.hid (show keepF first (done ++ [⟨st, P, tx⟩]) = keepF first done by rw [HKS.out, if_neg hge, List.append_nil])
            go_upto_region 14 with fail
            refine wp_region_alw (fun W => Blk W q 67 (stA st)) (by kernel_rfl) ?_
            have hS0 : (fun W => Blk W q 67 (stA st)) w5.drew := HBq5.out.drew
            have HDt := Lib.hid ((Turn.refl nowhere w5).drew)
            generalize w5.drew = wt at *
            refine alw_take (i := 0) (v := .int .i64 (P : Int)) rfl (by kernel_rfl) (by kernel_rfl) (fun _ _ _ h => h) (.inl ⟨by rfl, fun W hW => exec_move rfl rfl⟩) hS0 ?_
            simp only [zz]
            refine alw_take (i := 1) (v := .pointer (some ⟨q, 2, none⟩)) rfl (by kernel_rfl) (by kernel_rfl) (fun _ _ _ h => h) (.inl ⟨by rfl, fun W hW => exec_field (off := 0) (d := 2) rfl rfl (by kernel_rfl)⟩) hS0 ?_
            simp only [zz]
            refine alw_take (i := 2) (v := .int .i64 (st.cost : Int)) rfl (by kernel_rfl) (by kernel_rfl) (fun _ _ _ h => h) (.inl ⟨by rfl, fun W hW => exec_load1 rfl rfl (by kernel_rfl) (hW.cell 2)⟩) hS0 ?_
            simp only [zz]
            refine alw_take (i := 3) (v := .int .i64 ((P + st.cost : Nat) : Int)) rfl (by kernel_rfl) (by kernel_rfl) (fun _ _ _ h => h) (.inl ⟨by rfl, fun W hW => ix_add rfl rfl rfl (by omega) (by omega)⟩) hS0 ?_
            simp only [zz]
            refine alw_take (i := 4) (v := .pointer (some ⟨q, 1, none⟩)) rfl (by kernel_rfl) (by kernel_rfl) (fun _ _ _ h => h) (.inl ⟨by rfl, fun W hW => exec_field (off := 0) (d := 1) rfl rfl (by kernel_rfl)⟩) hS0 ?_
            simp only [zz]
            refine alw_take (i := 5) (v := .int .i64 (st.no : Int)) rfl (by kernel_rfl) (by kernel_rfl) (fun _ _ _ h => h) (.inl ⟨by rfl, fun W hW => exec_load1 rfl rfl (by kernel_rfl) (hW.cell 1)⟩) hS0 ?_
            simp only [zz]
            refine alw_take (i := 6) (v := .int .i64 ((st.no + 1 : Nat) : Int)) rfl (by kernel_rfl) (by kernel_rfl) (fun _ _ _ h => h) (.inl ⟨by rfl, fun W hW => ix_add rfl rfl rfl (by omega) (by omega)⟩) hS0 ?_
            simp only [zz]
            refine alw_take (i := 7) (v := .int .i64 ((P + st.cost : Nat) : Int)) rfl (by kernel_rfl) (by kernel_rfl) (fun _ _ _ h => h) (.inl ⟨by rfl, fun W hW => gx_assign rfl rfl⟩) hS0 ?_
            simp only [zz]
            refine alw_take (i := 8) (v := .int .i64 ((st.no + 1 : Nat) : Int)) rfl (by kernel_rfl) (by kernel_rfl) (fun _ _ _ h => h) (.inl ⟨by rfl, fun W hW => gx_assign rfl rfl⟩) hS0 ?_
            simp only [zz]
            refine alw_done rfl ?_
            refine NoPanic.normal ?_
            clear hS0
            try simp only [zz]
            go_wp2_with fail
            go_roundg gk'
            case measure => omega
            case rel => exact ⟨P + st.cost, some (st.no + 1), done ++ [⟨st, P, tx⟩], rfl, rfl, HRN.out, (fun m e => by injection e with e; omega), by rw [HKE.out]; exact HUN.out, .inr HON.out, by rw [List.length_append]; have := HLN.out; simp; omega, (show Orw w5 w1.heap.size 107 3 u8 ((keepF first (done ++ [⟨st, P, tx⟩])).map rowG) by rw [HKE.out]; exact HROW5.out).still HDt.out, HT5w.out.trans HDt.out fun _ _ e => e⟩
        · go_upto_region 8 with fail
          refine wp_region_lit ?_
          refine nR (.pointer (some ⟨q, 2, none⟩)) (exec_field (off := 0) (d := 2) rfl rfl (by kernel_rfl)) ?_;simp only [zz];refine nR (.int .i64 (st.cost : Int)) (exec_load1 rfl rfl (by kernel_rfl) (HBq5.out.cell 2)) ?_;simp only [zz];refine nR (.bool false) (ix_eql rfl rfl rfl (decide_eq_false (by omega))) ?_;simp only [zz];refine nR (.bool false) (exec_move rfl rfl) ?_;simp only [zz];refine wpList_run (v := .int .i64 z) rfl (exec_move rfl rfl) ?_;simp only [zz];refine wpList_run (v := .bool true) rfl (ix_neq rfl rfl rfl (decide_eq_true (by omega))) ?_;simp only [zz];refine wpList_run (v := .bool true) rfl (exec_move rfl rfl) ?_;simp only [zz];refine wpList_run (v := .pointer (some ⟨q, 1, none⟩)) rfl (exec_field (off := 0) (d := 1) rfl rfl (by kernel_rfl)) ?_;simp only [zz];refine wpList_run (v := .int .i64 (st.no : Int)) rfl (exec_load1 rfl rfl (by kernel_rfl) (HBq5.out.cell 1)) ?_;simp only [zz];refine wpList_run (v := .int .i64 z) rfl (exec_move rfl rfl) ?_;simp only [zz];refine wpList_run (v := .bool true) rfl (ix_neq rfl rfl rfl (decide_eq_true (by omega))) ?_;simp only [zz];refine wpList_run (v := .bool true) rfl (ix_pickT rfl rfl rfl) ?_;simp only [zz];refine nR (.bool true) (ix_pickF rfl rfl rfl) ?_;simp only [zz]
          go_upto_region 15 with fail
          refine wp_region_lit ?_
          refine nR (u8) (exec_move rfl rfl) ?_;simp only [zz];refine nR (u8) (gx_assign rfl rfl) ?_;simp only [zz];refine nR (.int .i64 0) (gx_assign rfl rfl) ?_;simp only [zz]
          go_wp2_with fail
          go_ret2
          have hlk := HLK.out done (by rw [← HEE.out, ← HBB.out]; exact HRUN.out.stop (.inr ⟨st, tx, HG.out, decide_eq_false hnm⟩))
          have hlk2 : live D B first = keepF first done := by rw [HBB.out]; exact hlk
          refine ⟨HT1.out.trans (HT5w.out) fun _ _ e => e, .inr (.inr ⟨HON.out, ?_, _, rfl, ?_⟩)⟩
          · rw [hlk]; exact HUN.out
          · rw [hlk]; exact (HROW5.out).less HW1.out
  · go_upto_region 4 with fail
    refine wp_region_lit ?_
    refine nR (.int .i64 (P : Int)) (exec_move rfl rfl) ?_;simp only [zz];refine nR (.int .i64 (sg : Int)) (exec_move rfl rfl) ?_;simp only [zz];refine nR (.int .i64 ((sg + 1 : Nat) : Int)) (ix_add rfl rfl rfl (by omega) (by omega)) ?_;simp only [zz]
    refine wpList_op rfl fun K9 HK9 => ?_
    go_wp2_with fail
    refine (begin_walk wr (sg + 1) (by omega)).mono ?_
    rintro e wr ⟨rfl, rfl⟩
    refine HK9.out _ _ ?_
    clear HK9
    try simp only [zz]
    rw [← HEE.out]
    refine nR (.bool false) (ix_lss rfl rfl rfl (decide_eq_false (by omega))) ?_;simp only [zz]
    go_upto_region 15 with fail
    refine wp_region_lit ?_
    refine nR (u8) (exec_move rfl rfl) ?_;simp only [zz];refine nR (u8) (gx_assign rfl rfl) ?_;simp only [zz];refine nR (.int .i64 0) (gx_assign rfl rfl) ?_;simp only [zz]
    go_wp2_with fail
    go_ret2
    have hlk := HLK.out done (by rw [← HEE.out, ← HBB.out]; exact HRUN.out.end_ (by omega))
    have hlk2 : live D B first = keepF first done := by rw [HBB.out]; exact hlk
    refine ⟨HT1.out.trans (HTR.out) fun _ _ e => e, .inr (.inr ⟨HOX.out.resolve_left (by omega), ?_, _, rfl, ?_⟩)⟩
    · rw [hlk]; exact HUN.out
    · rw [hlk]; exact (HROW.out).less HW1.out
end Go.Proofs.YtelipeoilcepbaaDoor
