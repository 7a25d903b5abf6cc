/-
  Texts in one file: WmK LaysS. Conditions: the tables and the errors read as the program's text lays them.
-/
import Derived.Test.YtelipeoilcepbaaDoorWp0
import Derived.Test.YtelipeoilcepbaaDoorWp1
import Derived.Test.YtelipeoilcepbaaDoorWp22
import Derived.Test.YtelipeoilcepbaaDoorWp17
import Derived.Test.YtelipeoilcepbaaDoorWp3
import Derived.Shelf.SlSortCmp.WholeK
import Derived.Ground.SlsfProg
import Derived.Ground.NamesProg
import Derived.Test.YtelipeoilcepbaaDoorProg
namespace Go.Proofs.YtelipeoilcepbaaDoor
open Go.RowKit
open Wl (B8)
set_option linter.unusedVariables false
set_option linter.unusedSimpArgs false
set_option maxRecDepth 20000
open Wl (Gp live chain)
instance : Inhabited Gp := ⟨⟨⟨0, 0, 0, 0⟩, 0, []⟩⟩
theorem chain_short {D : Wl.Disk} {E : Nat} : ∀ (k P : Nat) (nx : Option Nat), (chain D E k P nx).length ≤ k
  | 0, P, nx => by simp [chain]
  | k + 1, P, nx => by
    cases hg : Wl.grp D E P with
    | none => rw [Wl.chain_none hg]; exact Nat.zero_le _
    | some x =>
      obtain ⟨s, t⟩ := x
      cases hn : Wl.nxOk nx s.no with
      | false => rw [Wl.chain_stop hg hn]; exact Nat.zero_le _
      | true =>
        rw [Wl.chain_some hg hn, List.length_cons]
        exact Nat.succ_le_succ (chain_short k _ _)
theorem live_short (D : Wl.Disk) (B f : Nat) : (live D B f).length ≤ 65 := by
  unfold live
  exact Nat.le_trans (List.length_filter_le _ _) (chain_short _ _ _)
noncomputable def foundTo (D : Wl.Disk) (f j : Nat) : List Gp := (List.range j).flatMap fun sg => live D (2 + 64 * sg) f
theorem foundTo_succ (D : Wl.Disk) (f j : Nat) : foundTo D f (j + 1) = foundTo D f j ++ live D (2 + 64 * j) f := by
  unfold foundTo
  rw [List.range_succ, List.flatMap_append]
  simp
theorem foundTo_short (D : Wl.Disk) (f : Nat) : ∀ j, (foundTo D f j).length ≤ 65 * j
  | 0 => by simp [foundTo]
  | j + 1 => by
    rw [foundTo_succ, List.length_append]
    have := foundTo_short D f j
    have := live_short D (2 + 64 * j) f
    omega
def WalV.adds (v : WalV) (gs : List Gp) : WalV := gs.foldl (fun v g => v.add g.P g.s.cost) v
theorem adds_snoc (v : WalV) (gs : List Gp) (g : Gp) : v.adds (gs ++ [g]) = (v.adds gs).add g.P g.s.cost := by
  unfold WalV.adds
  rw [List.foldl_append]
  rfl
theorem adds_facts : ∀ (gs : List Gp) (v : WalV), (v.adds gs).places = v.places ++ gs.map (·.P) ∧ (v.adds gs).held.length = v.held.length ∧ (v.adds gs).first = v.first ∧ (v.adds gs).slot = v.slot ∧ (v.adds gs).age = v.age ∧ ∀ sg, (v.adds gs).held.getD sg 0 ≤ v.held.getD sg 0 + gs.length
  | [], v => ⟨by simp [WalV.adds], rfl, rfl, rfl, rfl, fun _ => Nat.le_refl _⟩
  | g :: gs, v => by
    obtain ⟨h1, h2, h3, h4, h5, h6⟩ := adds_facts gs (v.add g.P g.s.cost)
    have e : v.adds (g :: gs) = (v.add g.P g.s.cost).adds gs := rfl
    rw [e]
    refine ⟨by rw [h1]; simp [WalV.add], by rw [h2]; simp [WalV.add], h3, h4, h5, fun sg => ?_⟩
    have := h6 sg
    have h7 : (v.add g.P g.s.cost).held.getD sg 0 ≤ v.held.getD sg 0 + 1 := by
      show (v.held.set ((g.P - 2) / 64) ((v.held.getD ((g.P - 2) / 64) 0) + 1)).getD sg 0 ≤ _
      rw [List.getD_eq_getElem?_getD, List.getElem?_set]
      split
      · rename_i h8
        subst h8
        split
        · exact Nat.le_refl _
        · simp
      · rw [← List.getD_eq_getElem?_getD]
        omega
    rw [List.length_cons]
    omega
theorem ltNo (x y : Gp) : ltOf (fun x y : Gp => Lib.compareInt (x.s.no : Int) (y.s.no : Int)) x y = decide (x.s.no < y.s.no) := by
  unfold ltOf Lib.compareInt
  by_cases h1 : x.s.no < y.s.no
  · simp [h1]
  · by_cases h2 : y.s.no < x.s.no <;> simp [h1, h2]
theorem swoNo : Sort.SWO (ltOf fun x y : Gp => Lib.compareInt (x.s.no : Int) (y.s.no : Int)) where
  irrefl x := by rw [ltNo]; simp
  trans x y z h1 h2 := by rw [ltNo] at *; simp at *; omega
  ntrans x y z h1 h2 := by rw [ltNo] at *; simp at *; omega
theorem isNaN_walk (a : Int) (w : World) : Calls Tryd.prog 76 #[.int .i64 a] w fun e w' => e = .returned (.bool false) ∧ w = w' := by
  go_enter Tryd.func76, Tryd.ntmps76
  go_upto_region 0 with fail
  refine wp_region_lit ?_
  refine nR (.bool false) (gx_assign rfl rfl) ?_;simp only [zz]
  go_upto_region 1 with fail
  refine wp_region_lit ?_
  refine nR (.int .i64 a) (exec_move rfl rfl) ?_;simp only [zz];refine nR (.int .i64 a) (exec_move rfl rfl) ?_;simp only [zz];refine nR (.bool false) (ix_neq rfl rfl rfl (decide_eq_false (not_not_intro rfl))) ?_;simp only [zz];refine nR (.bool false) (gx_assign rfl rfl) ?_;simp only [zz]
  go_wp2_with fail
  go_ret
  exact ⟨rfl, rfl⟩
theorem compare_walk (a b : Int) (w : World) : Calls Tryd.prog 60 #[.int .i64 a, .int .i64 b] w fun e w' => e = .returned (.int .i64 (Lib.compareInt a b)) ∧ w = w' := by
  go_enter Tryd.func60, Tryd.ntmps60
  go_upto_region 0 with fail
  refine wp_region_lit ?_
  refine nR (.int .i64 0) (gx_assign rfl rfl) ?_;simp only [zz]
  go_upto_region 1 with fail
  refine wp_region_lit ?_
  refine nR (.int .i64 a) (exec_move rfl rfl) ?_;simp only [zz]
  refine wpList_op rfl fun K9 HK9 => ?_
  go_wp2_with fail
  refine (isNaN_walk a w).mono ?_
  rintro e w1 ⟨rfl, hw⟩
  refine HK9.out _ _ ?_
  clear HK9
  try simp only [zz]
  obtain rfl := hw
  refine nR (.bool false) (gx_assign rfl rfl) ?_;simp only [zz]
  go_upto_region 2 with fail
  refine wp_region_lit ?_
  refine nR (.int .i64 b) (exec_move rfl rfl) ?_;simp only [zz]
  refine wpList_op rfl fun K9 HK9 => ?_
  go_wp2_with fail
  refine (isNaN_walk b w).mono ?_
  rintro e w1 ⟨rfl, hw⟩
  refine HK9.out _ _ ?_
  clear HK9
  try simp only [zz]
  obtain rfl := hw
  refine nR (.bool false) (gx_assign rfl rfl) ?_;simp only [zz]
  go_upto_region 3 with fail
  refine wp_region_lit ?_
  refine nR (.bool false) (exec_move rfl rfl) ?_;simp only [zz]
  go_upto_region 7 with fail
  refine wp_region_lit ?_
  refine nR (.bool false) (exec_move rfl rfl) ?_;simp only [zz]
  by_cases h1 : a < b
  · have H1 := Lib.hid h1
    clear h1
    go_upto_region 9 with fail
    refine wp_region_lit ?_
    refine nR (.int .i64 a) (exec_move rfl rfl) ?_;simp only [zz];refine nR (.int .i64 b) (exec_move rfl rfl) ?_;simp only [zz];refine nR (.bool true) (ix_lss rfl rfl rfl (decide_eq_true H1.out)) ?_;simp only [zz]
    go_upto_region 10 with fail
    refine wp_region_lit ?_
    refine nR (.int .i64 (-1)) (gx_assign rfl rfl) ?_;simp only [zz]
    go_wp2_with fail
    go_ret
    rw [show Lib.compareInt a b = -1 from if_pos H1.out]
    exact ⟨rfl, rfl⟩
  · have H1 := Lib.hid h1
    clear h1
    go_upto_region 9 with fail
    refine wp_region_lit ?_
    refine nR (.int .i64 a) (exec_move rfl rfl) ?_;simp only [zz];refine nR (.int .i64 b) (exec_move rfl rfl) ?_;simp only [zz];refine nR (.bool false) (ix_lss rfl rfl rfl (decide_eq_false H1.out)) ?_;simp only [zz]
    by_cases h2 : a > b
    · have H2 := Lib.hid h2
      clear h2
      go_upto_region 11 with fail
      refine wp_region_lit ?_
      refine nR (.int .i64 a) (exec_move rfl rfl) ?_;simp only [zz];refine nR (.int .i64 b) (exec_move rfl rfl) ?_;simp only [zz];refine nR (.bool true) (ix_gtr rfl rfl rfl (decide_eq_true H2.out)) ?_;simp only [zz]
      go_upto_region 12 with fail
      refine wp_region_lit ?_
      refine nR (.int .i64 1) (gx_assign rfl rfl) ?_;simp only [zz]
      go_wp2_with fail
      go_ret
      rw [show Lib.compareInt a b = 1 from (if_neg (Int.not_lt.2 H1.out)).trans (if_pos H2.out)]
      exact ⟨rfl, rfl⟩
    · have H2 := Lib.hid h2
      clear h2
      go_upto_region 11 with fail
      refine wp_region_lit ?_
      refine nR (.int .i64 a) (exec_move rfl rfl) ?_;simp only [zz];refine nR (.int .i64 b) (exec_move rfl rfl) ?_;simp only [zz];refine nR (.bool false) (ix_gtr rfl rfl rfl (decide_eq_false H2.out)) ?_;simp only [zz]
      go_upto_region 13 with fail
      refine wp_region_lit ?_
      refine nR (.int .i64 0) (gx_assign rfl rfl) ?_;simp only [zz]
      go_wp2_with fail
      go_ret
      rw [show Lib.compareInt a b = 0 from (if_neg (Int.not_lt.2 H1.out)).trans (if_neg (Int.not_lt.2 H2.out))]
      exact ⟨rfl, rfl⟩
theorem box_grp (x : Gp) (w : World) : (Instr.box 107 (.agg (rowG x).toArray)).run Tryd.prog w = .ok (.pointer (some ⟨w.heap.size, 0, none⟩)) (w.alloc (.cells (rowG x).toArray 107)) := by
  simp [Instr.box, newVar, newRow, Result.andThen, Value.cells]
theorem fcmp_walk (x y : Gp) (w : World) : Calls Tryd.prog 59 #[.agg (rowG x).toArray, .agg (rowG y).toArray] w fun e w' => e = .returned (.int .i64 (Lib.compareInt (x.s.no : Int) (y.s.no : Int))) ∧ ∃ q os', w' = Sort.grow (w.drewN q) os' := by
  go_enter Tryd.func59, Tryd.ntmps59
  go_upto_region 0 with fail
  refine wp_region_lit ?_
  refine wpList_run (v := .pointer (some ⟨(w).heap.size, 0, none⟩)) (w' := (w).alloc (.cells ((rowG x).toArray) 107)) (wanted_none rfl) (gx_box rfl rfl (box_grp x _)) ?_;simp only [zz];refine wpList_run (v := .pointer (some ⟨((w).alloc (.cells ((rowG x).toArray) 107)).heap.size, 0, none⟩)) (w' := ((w).alloc (.cells ((rowG x).toArray) 107)).alloc (.cells ((rowG y).toArray) 107)) (wanted_none rfl) (gx_box rfl rfl (box_grp y _)) ?_;simp only [zz];refine nR (.int .i64 0) (gx_assign rfl rfl) ?_;simp only [zz]
  have hb_gx := (Blk.new (w) 107 ((rowG x).toArray)).alloc (.cells ((rowG y).toArray) 107)
  have hb_gy := Blk.new ((w).alloc (.cells ((rowG x).toArray) 107)) 107 ((rowG y).toArray)
  have ht_ := ((Turn.refl nowhere (w)).alloc (.cells ((rowG x).toArray) 107)).alloc (.cells ((rowG y).toArray) 107)
  obtain ⟨n0_, hn0_⟩ : ∃ n, n = (w).heap.size := ⟨_, rfl⟩
  have hz_gx : (w).heap.size = n0_ + 0 := by rw [hn0_]; simp
  have hz_gy : ((w).alloc (.cells ((rowG x).toArray) 107)).heap.size = n0_ + 1 := by rw [hn0_]; simp
  obtain ⟨gy, hg_⟩ : ∃ g, g = ((w).alloc (.cells ((rowG x).toArray) 107)).heap.size := ⟨_, rfl⟩
  rw [← hg_] at hb_gy hz_gy ⊢
  clear hg_
  obtain ⟨gx, hg_⟩ : ∃ g, g = (w).heap.size := ⟨_, rfl⟩
  rw [← hg_] at hb_gx hz_gx ⊢
  clear hg_
  generalize hw1 : ((w).alloc (.cells ((rowG x).toArray) 107)).alloc (.cells ((rowG y).toArray) 107) = w1 at *
  have HT1 := Lib.hid ht_
  clear ht_
  have HBgx := Lib.hid hb_gx
  have HLgx := Lib.hid (show (w).heap.size ≤ gx from by omega)
  clear hb_gx
  have HBgy := Lib.hid hb_gy
  have HLgy := Lib.hid (show (w).heap.size ≤ gy from by omega)
  clear hb_gy
  have HNgxgy := Lib.hid (show gx ≠ gy from by omega)
  clear hn0_ hz_gx hz_gy
  clear n0_
  have HW1 := Lib.hid hw1
  clear hw1
  go_upto_region 1 with fail
  refine wp_region_lit ?_
  refine nR (.pointer (some ⟨gx, 0, none⟩)) (exec_field (off := 0) (d := 0) rfl rfl (by kernel_rfl)) ?_;simp only [zz];refine nR (.int .i64 (x.s.no : Int)) (exec_load1 rfl rfl (by kernel_rfl) (HBgx.out.cell 0)) ?_;simp only [zz];refine nR (.pointer (some ⟨gy, 0, none⟩)) (exec_field (off := 0) (d := 0) rfl rfl (by kernel_rfl)) ?_;simp only [zz];refine nR (.int .i64 (y.s.no : Int)) (exec_load1 rfl rfl (by kernel_rfl) (HBgy.out.cell 0)) ?_;simp only [zz]
  refine wpList_op rfl fun K9 HK9 => ?_
  go_wp2_with fail
  refine (compare_walk (x.s.no : Int) (y.s.no : Int) w1).mono ?_
  rintro e w2 ⟨rfl, hw⟩
  refine HK9.out _ _ ?_
  clear HK9
  try simp only [zz]
  obtain rfl := hw
  refine nR (.int .i64 (Lib.compareInt (x.s.no : Int) (y.s.no : Int))) (gx_assign rfl rfl) ?_;simp only [zz]
  go_wp2_with fail
  go_ret
  refine ⟨rfl, 0, #[Obj.cells (rowG x).toArray 107] ++ #[Obj.cells (rowG y).toArray 107], ?_⟩
  rw [← HW1.out, Sort.alloc_eq_grow, Sort.alloc_eq_grow, Sort.grow_grow]
  rfl
end Go.Proofs.YtelipeoilcepbaaDoor
namespace Go.Proofs.YtelipeoilcepbaaDoor
open Go.Shelf
def Tryd.sortG_ren : Go.Shelf.Ren := ⟨fun | 6 => 58 | 15 => 75 | 14 => 74 | 28 => 88 | 29 => 89 | 20 => 80 | 21 => 81 | 22 => 82 | 23 => 83 | 24 => 84 | 25 => 85 | 26 => 86 | 27 => 87 | 46 => 90 | 47 => 91 | 48 => 92 | 49 => 93 | 50 => 94 | 57 => 95 | n => n, fun | 22 => 102 | 24 => 107 | 25 => 108 | 3 => 3 | 39 => 121 | 0 => 0 | 53 => 118 | 55 => 140 | 4 => 4 | 46 => 132 | 45 => 131 | 50 => 136 | 5 => 5 | 9 => 9 | 66 => 143 | 70 => 147 | 76 => 149 | 77 => 150 | n => n, fun | n => n⟩
theorem Tryd.sortG : Go.Proofs.SlLaysF0.n6 Tryd.prog Tryd.sortG_ren := {
  mixed := by kernel_rfl
  f6 := ⟨Tryd.f58.name, by decide, Tryd.func58.trans (congrArg some (by kernel_rfl))⟩
  f14 := ⟨Tryd.f74.name, by decide, Tryd.func74.trans (congrArg some (by kernel_rfl))⟩
  f15 := Tryd.func75.trans (congrArg some (by kernel_rfl))
  f20 := ⟨Tryd.f80.name, by decide, Tryd.func80.trans (congrArg some (by kernel_rfl))⟩
  f21 := ⟨Tryd.f81.name, by decide, Tryd.func81.trans (congrArg some (by kernel_rfl))⟩
  f22 := ⟨Tryd.f82.name, by decide, Tryd.func82.trans (congrArg some (by kernel_rfl))⟩
  f23 := ⟨Tryd.f83.name, by decide, Tryd.func83.trans (congrArg some (by kernel_rfl))⟩
  f24 := ⟨Tryd.f84.name, by decide, Tryd.func84.trans (congrArg some (by kernel_rfl))⟩
  f25 := ⟨Tryd.f85.name, by decide, Tryd.func85.trans (congrArg some (by kernel_rfl))⟩
  f26 := ⟨Tryd.f86.name, by decide, Tryd.func86.trans (congrArg some (by kernel_rfl))⟩
  f27 := ⟨Tryd.f87.name, by decide, Tryd.func87.trans (congrArg some (by kernel_rfl))⟩
  f28 := Tryd.func88.trans (congrArg some (by kernel_rfl))
  f29 := Tryd.func89.trans (congrArg some (by kernel_rfl))
  f46 := ⟨Tryd.f90.name, by decide, Tryd.func90.trans (congrArg some (by kernel_rfl))⟩
  f47 := Tryd.func91.trans (congrArg some (by kernel_rfl))
  f48 := Tryd.func92.trans (congrArg some (by kernel_rfl))
  f49 := ⟨Tryd.f93.name, by decide, Tryd.func93.trans (congrArg some (by kernel_rfl))⟩
  f50 := ⟨Tryd.f94.name, by decide, Tryd.func94.trans (congrArg some (by kernel_rfl))⟩
  f57 := ⟨Tryd.f95.name, by decide, Tryd.func95.trans (congrArg some (by kernel_rfl))⟩
  t0 := Tryd.underlying0
  a0 := Tryd.isAgg0
  z0 := Tryd.sizeOf0
  v0 := Tryd.zeroValue0
  t3 := Tryd.underlying3
  a3 := Tryd.isAgg3
  z3 := Tryd.sizeOf3
  v3 := Tryd.zeroValue3
  t4 := Tryd.underlying4
  a4 := Tryd.isAgg4
  z4 := Tryd.sizeOf4
  v4 := Tryd.zeroValue4
  t5 := Tryd.underlying5
  a5 := Tryd.isAgg5
  z5 := Tryd.sizeOf5
  v5 := Tryd.zeroValue5
  t9 := Tryd.underlying9
  a9 := Tryd.isAgg9
  z9 := Tryd.sizeOf9
  v9 := Tryd.zeroValue9
  t22 := Tryd.underlying102
  a22 := Tryd.isAgg102
  z22 := Tryd.sizeOf102
  v22 := Tryd.zeroValue102
  t25 := Tryd.underlying108
  a25 := Tryd.isAgg108
  z25 := Tryd.sizeOf108
  v25 := Tryd.zeroValue108
  t39 := Tryd.underlying121
  a39 := Tryd.isAgg121
  z39 := Tryd.sizeOf121
  v39 := Tryd.zeroValue121
  t45 := Tryd.underlying131
  a45 := Tryd.isAgg131
  z45 := Tryd.sizeOf131
  v45 := Tryd.zeroValue131
  t46 := Tryd.underlying132
  a46 := Tryd.isAgg132
  z46 := Tryd.sizeOf132
  v46 := Tryd.zeroValue132
  t50 := Tryd.underlying136
  a50 := Tryd.isAgg136
  z50 := Tryd.sizeOf136
  v50 := Tryd.zeroValue136
  t53 := Tryd.underlying118
  a53 := Tryd.isAgg118
  z53 := Tryd.sizeOf118
  v53 := Tryd.zeroValue118
  t55 := Tryd.underlying140
  a55 := Tryd.isAgg140
  z55 := Tryd.sizeOf140
  v55 := Tryd.zeroValue140
  t66 := Tryd.underlying143
  a66 := Tryd.isAgg143
  z66 := Tryd.sizeOf143
  v66 := Tryd.zeroValue143
  t70 := Tryd.underlying147
  a70 := Tryd.isAgg147
  z70 := Tryd.sizeOf147
  v70 := Tryd.zeroValue147
  t76 := Tryd.underlying149
  a76 := Tryd.isAgg149
  z76 := Tryd.sizeOf149
  v76 := Tryd.zeroValue149
  t77 := Tryd.underlying150
  a77 := Tryd.isAgg150
  z77 := Tryd.sizeOf150
  v77 := Tryd.zeroValue150 }
end Go.Proofs.YtelipeoilcepbaaDoor
