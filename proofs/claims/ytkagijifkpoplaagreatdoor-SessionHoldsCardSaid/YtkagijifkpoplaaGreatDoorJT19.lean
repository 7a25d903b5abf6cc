/-
  Texts in one file. Conditions: the tables and the errors read as laid.
-/
import Derived.Test.YtkagijifkpoplaaGreatDoorJT18
import Derived.Test.YtkagijifkpoplaaGreatDoorJT17
import Derived.Laws.EntriesVeiled
import Derived.Test.YtkagijifkpoplaaGreatDoorJT0
import Derived.Test.YtkagijifkpoplaaGreatDoorJT1
set_option linter.unusedVariables false
set_option linter.unusedSimpArgs false
set_option maxRecDepth 40000
set_option maxHeartbeats 20000000
namespace Go.Proofs.YtkagijifkpoplaaGreatDoor.Fdd
def hasM (no : Int) (l : List Fld) : List Fld := l.filter fun f => f.1 == no
theorem oth_cons (no : Int) (f : Fld) (r : List Fld) : others no (f :: r) = if f.1 = no then others no r else f :: others no r := by
 unfold others
 by_cases h : f.1 = no
 ·rw [if_pos h, List.filter_cons_of_neg (by simp [h])]
 ·rw [if_neg h, List.filter_cons_of_pos (by simp [h])]
theorem has_cons (no : Int) (f : Fld) (r : List Fld) : hasM no (f :: r) = if f.1 = no then f :: hasM no r else hasM no r := by
 unfold hasM
 by_cases h : f.1 = no
 ·rw [if_pos h, List.filter_cons_of_pos (by simp [h])]
 ·rw [if_neg h, List.filter_cons_of_neg (by simp [h])]
theorem oth_ins (no : Int) (t : List UInt8) : ∀ l : List Fld, others no (insM (no, t) l) = others no l
 | [] => by
   unfold insM
   rw [oth_cons, if_pos rfl]
 | f :: r => by
   unfold insM
   split
   ·rw [oth_cons, if_pos rfl]
   ·rw [oth_cons, oth_cons, oth_ins no t r]
theorem has_ins (no : Int) (t : List UInt8) : ∀ l : List Fld, hasM no l = [] → hasM no (insM (no, t) l) = [(no, t)]
 | [], _ => by
   unfold insM
   rw [has_cons, if_pos rfl]
   rfl
 | f :: r, h => by
   have hn : ¬ f.1 = no := by
    intro e
    rw [has_cons, if_pos e] at h
    cases h
   have hr : hasM no r = [] := by
    rw [has_cons, if_neg hn] at h
    exact h
   unfold insM
   split
   ·rw [has_cons, if_pos rfl, h]
   ·rw [has_cons, if_neg hn, has_ins no t r hr]
theorem oth_oth (no : Int) (l : List Fld) : others no (others no l) = others no l := by
 unfold others
 rw [List.filter_filter]
 congr 1
 funext f
 simp
theorem has_oth (no : Int) (l : List Fld) : hasM no (others no l) = [] := by
 unfold others hasM
 rw [List.filter_filter, List.filter_eq_nil_iff]
 intro f _
 simp
theorem oth_set (no : Int) (t : List UInt8) (fs : List Fld) : others no (setM no t fs) = others no fs := by
 unfold setM
 rw [oth_ins, oth_oth]
theorem has_set (no : Int) (t : List UInt8) (fs : List Fld) : hasM no (setM no t fs) = [(no, t)] := has_ins no t _ (has_oth no fs)
theorem oth_take {no : Int} {l : List Fld} {i : Nat} {f : Fld} (hf : l[i]? = some f) : others no (l.take (i + 1)) = if f.1 = no then others no (l.take i) else others no (l.take i) ++ [f] := by
 rw [List.take_add_one, hf]
 unfold others
 rw [List.filter_append]
 by_cases h : f.1 = no
 ·rw [if_pos h, show List.filter (fun f => f.1 != no) (some f).toList = [] from by simp [h], List.append_nil]
 ·rw [if_neg h, show List.filter (fun f => f.1 != no) (some f).toList = [f] from by simp [h]]
theorem ins_len (x : Fld) : ∀ l : List Fld, (insM x l).length = l.length + 1
 | [] => rfl
 | f :: r => by
   unfold insM
   split
   ·rfl
   ·rw [List.length_cons, ins_len x r, List.length_cons]
theorem set_len (no : Int) (t : List UInt8) (fs : List Fld) : (setM no t fs).length = (others no fs).length + 1 := ins_len _ _
theorem at_step {no : Int} {l : List Fld} {i : Nat} {f : Fld} (hf : l[i]? = some f) : atM no (l.drop i) = if no < f.1 then 0 else atM no (l.drop (i + 1)) + 1 := by
 obtain ⟨hj, e⟩ := List.getElem?_eq_some_iff.1 hf
 rw [List.drop_eq_getElem_cons hj, e]
 rfl
theorem at_end {no : Int} {l : List Fld} {i : Nat} (h : l.length ≤ i) : atM no (l.drop i) = 0 := by
 rw [List.drop_eq_nil_of_le h]
 rfl
end Go.Proofs.YtkagijifkpoplaaGreatDoor.Fdd
namespace Go.Proofs.YtkagijifkpoplaaGreatDoor
open Go.RowKit
open Fdd
def fmA (m : Fm) : Array Value := #[.int .i64 m.kind, .int .i64 m.size, .int .i64 m.code]
def fm0 : Fm := ⟨0, 0, 0⟩
def formE (dd no : Int) : Fm × Int := if 1 ≤ dd ∧ dd ≤ 3 then match mform dd.toNat no with
 | some m => (m, 0)
 | none => (fm0, 52)
 else (fm0, 50)
theorem fmA_one (m : Fm) : ∀ v ∈ (fmA m).toList, v.oneCell' = true := fun v hv => by
 unfold fmA at hv
 simp only [List.mem_cons, List.not_mem_nil, or_false] at hv
 rcases hv with rfl | rfl | rfl <;> rfl
theorem zero_fm (w : World) : (zeroValue 105).run Tryz.prog w = .ok (.agg (fmA fm0)) w := by kernel_rfl
theorem build_fm0 (W : World) : (Instr.build 105 #[]).run Tryz.prog W = .ok (.agg (fmA fm0)) W := by kernel_rfl
def thereR (no : Int) : Int × Int := (mfind no mrows).getD (0, 0)
theorem there_walk {w : World} {no : Int} : Calls Tryz.prog 79 #[.int .i64 no] w fun e w' => e = .returned (.tuple #[.int .i64 (thereR no).1, .int .i64 (thereR no).2]) ∧ w' = w := by
 by_cases h : no ∈ [(2 : Int), 3, 4, 7, 11, 32, 38, 39, 49, 64, 70, 74, 76, 86, 88, 90, 97]
 ·simp only [List.mem_cons, List.not_mem_nil, or_false] at h
  rcases h with rfl | rfl | rfl | rfl | rfl | rfl | rfl | rfl | rfl | rfl | rfl | rfl | rfl | rfl | rfl | rfl | rfl
  all_goals
   go_enter Tryz.func79, Tryz.ntmps79
   go_wp2
   go_ret2
   exact ⟨rfl, rfl⟩
 ·simp only [List.mem_cons, List.not_mem_nil, or_false, not_or] at h
  obtain ⟨h1, h2, h3, h4, h5, h6, h7, h8, h9, h10, h11, h12, h13, h14, h15, h16, h17⟩ := h
  have hv : thereR no = (0, 0) := by
   unfold thereR mrows
   simp [mfind, Ne.symm h1, Ne.symm h2, Ne.symm h3, Ne.symm h4, Ne.symm h5, Ne.symm h6, Ne.symm h7, Ne.symm h8, Ne.symm h9, Ne.symm h10, Ne.symm h11, Ne.symm h12, Ne.symm h13, Ne.symm h14, Ne.symm h15, Ne.symm h16, Ne.symm h17]
  rw [hv]
  clear hv
  go_enter Tryz.func79, Tryz.ntmps79
  go_wp2
  go_ret2
  exact ⟨rfl, rfl⟩
theorem mfind_pos {no : Int} {r : Int × Int} (h : mfind no mrows = some r) : r.1 ≠ 0 := by
 have := (mrows_all _ (mfind_mem h)).1
 have h2 : (no, r).2.1 = r.1 := rfl
 omega
theorem mfind_four {r : Int × Int} (h : mfind 4 mrows = some r) : r.2 = 12 := by
 have := (mrows_all _ (mfind_mem h)).2.2.1 rfl
 exact this.1
theorem build_fm3 (x y z : Int) (W : World) : (Instr.build 105 #[(0, .int .i64 x), (1, .int .i64 y), (2, .int .i64 z)]).run Tryz.prog W = .ok (.agg (fmA ⟨x, y, z⟩)) W := by kernel_rfl
theorem rForm_walk {w : World} {dd no : Int} :
 Calls Tryz.prog 59 #[.int .i64 dd, .int .i64 no] w fun e w' => e = .returned (.tuple #[.agg (fmA (formE dd no).1), .int .i64 (formE dd no).2]) ∧ Turn nowhere w w' := by
 have hu := (Turn.refl nowhere w).alloc (.cells (fmA fm0) 105)
 have hb := Blk.new w 105 (fmA fm0)
 obtain ⟨gr, hgr⟩ : ∃ gr, gr = w.heap.size := ⟨_, rfl⟩
 rw [← hgr] at hb
 have HGRE := zH hgr
 have HGR := zH (show w.heap.size ≤ gr from by omega)
 have HT0 := zH hu
 have HBgr := zH hb
 clear hu hb hgr
 go_enter Tryz.func59, Tryz.ntmps59
 go_upto_region 1 with fail
 have e2 := HGRE.out
 rw [← e2]
 clear e2 HGRE
 change Code.wp _ _ _ _ (w.alloc (.cells (fmA fm0) 105))
 generalize World.alloc w (.cells (fmA fm0) 105) = w1 at *
 refine wp_region_lit ?_
 refine wM (.int .i64 dd) ?_;simp only [zz]
 by_cases h1 : dd < 1
 ·have HFX := zH (show formE dd no = (fm0, 50) from by unfold formE; rw [if_neg (by omega)])
  refine wS (.bool true) (ix_lss rfl rfl rfl (decide_eq_true h1)) ?_;simp only [zz];refine wM (.bool true) ?_;simp only [zz]
  refine wpList_skip (by go_simp) ?_
  simp only [zz]
  refine wpList_skip (by go_simp) ?_
  simp only [zz];refine wS (.bool true) (ix_pickT rfl rfl rfl) ?_;simp only [zz]
  go_upto_region 2 with fail
  refine wp_region_lit ?_
  refine wS (.agg (fmA fm0)) (exec_bld rfl (build_fm0 _)) ?_;simp only [zz]
  refine wpList_store_row rfl 105 (.tmp 4) (.tmp 14) rfl (fmA fm0) HBgr.out rfl rfl rfl (by rw [size_form]; rfl) (fmA_one _) ?_
  intro w6 hb6 hu6
  have HBZ := zH hb6
  have HUZ := zH (above HT0.out HGR.out hu6)
  clear hb6 hu6
  try simp only [zz]
  refine wA (.int .i64 50) ?_;simp only [zz]
  go_wp2_with fail
  refine bodyPost_ret (v := .tuple #[.agg (fmA fm0), .int .i64 50]) (ret_cell2 rfl _ _ gr _ _ _ rfl rfl HBZ.out Tryz.underlying105 rfl (by rw [size_form]; rfl)) rfl ?_
  rw [HFX.out]
  exact ⟨rfl, HUZ.out⟩
 ·refine wS (.bool false) (ix_lss rfl rfl rfl (decide_eq_false h1)) ?_;simp only [zz];refine wM (.bool false) ?_;simp only [zz];refine wM (.int .i64 dd) ?_;simp only [zz]
  by_cases h2 : 3 < dd
  ·have HFX := zH (show formE dd no = (fm0, 50) from by unfold formE; rw [if_neg (by omega)])
   refine wS (.bool true) (ix_gtr rfl rfl rfl (decide_eq_true h2)) ?_;simp only [zz];refine wS (.bool true) (ix_pickF rfl rfl rfl) ?_;simp only [zz]
   go_upto_region 2 with fail
   refine wp_region_lit ?_
   refine wS (.agg (fmA fm0)) (exec_bld rfl (build_fm0 _)) ?_;simp only [zz]
   refine wpList_store_row rfl 105 (.tmp 4) (.tmp 14) rfl (fmA fm0) HBgr.out rfl rfl rfl (by rw [size_form]; rfl) (fmA_one _) ?_
   intro w6 hb6 hu6
   have HBZ := zH hb6
   have HUZ := zH (above HT0.out HGR.out hu6)
   clear hb6 hu6
   try simp only [zz]
   refine wA (.int .i64 50) ?_;simp only [zz]
   go_wp2_with fail
   refine bodyPost_ret (v := .tuple #[.agg (fmA fm0), .int .i64 50]) (ret_cell2 rfl _ _ gr _ _ _ rfl rfl HBZ.out Tryz.underlying105 rfl (by rw [size_form]; rfl)) rfl ?_
   rw [HFX.out]
   exact ⟨rfl, HUZ.out⟩
  ·refine wS (.bool false) (ix_gtr rfl rfl rfl (decide_eq_false h2)) ?_;simp only [zz];refine wS (.bool false) (ix_pickF rfl rfl rfl) ?_;simp only [zz]
   have hFE : formE dd no = (match mform dd.toNat no with | some m => (m, 0) | none => (fm0, 52)) := by
    unfold formE
    rw [if_pos (by omega)] <;> rfl
   have hd3 : 1 ≤ dd ∧ dd ≤ 3 := by omega
   clear h1 h2
   go_upto_region 3 with fail
   refine wp_region_lit ?_
   refine wM (.int .i64 no) ?_;simp only [zz]
   refine wpList_op rfl fun K9 HK9 => ?_
   go_wp2_with fail
   refine (there_walk).mono ?_
   rintro e w2 ⟨rfl, rfl⟩
   refine HK9.out _ _ ?_
   clear HK9
   try simp only [zz]
   refine wM (.tuple #[.int .i64 (thereR no).1, .int .i64 (thereR no).2]) ?_;simp only [zz];refine wE (.int .i64 (thereR no).1) ?_;simp only [zz];refine wE (.int .i64 (thereR no).2) ?_;simp only [zz];refine wA (.int .i64 (thereR no).1) ?_;simp only [zz];refine wA (.int .i64 (thereR no).2) ?_;simp only [zz]
   go_upto_region 4 with fail
   refine wp_region_lit ?_
   refine wM (.int .i64 (thereR no).1) ?_;simp only [zz]
   cases hm : mfind no mrows with
   | none =>
     have HFX := zH (show formE dd no = (fm0, 52) from by
      rw [hFE]
      unfold mform
      rw [hm]
      rfl)
     have h0 : thereR no = (0, 0) := by
      unfold thereR
      rw [hm]
      rfl
     rw [h0]
     clear h0 hm hFE hd3
     refine wS (.bool true) (ix_eql rfl rfl rfl (by decide)) ?_;simp only [zz]
     go_upto_region 5 with fail
     refine wp_region_lit ?_
     refine wS (.agg (fmA fm0)) (exec_bld rfl (build_fm0 _)) ?_;simp only [zz]
     refine wpList_store_row rfl 105 (.tmp 4) (.tmp 22) rfl (fmA fm0) HBgr.out rfl rfl rfl (by rw [size_form]; rfl) (fmA_one _) ?_
     intro w6 hb6 hu6
     have HBZ := zH hb6
     have HUZ := zH (above HT0.out HGR.out hu6)
     clear hb6 hu6
     try simp only [zz]
     refine wA (.int .i64 52) ?_;simp only [zz]
     go_wp2_with fail
     refine bodyPost_ret (v := .tuple #[.agg (fmA fm0), .int .i64 52]) (ret_cell2 rfl _ _ gr _ _ _ rfl rfl HBZ.out Tryz.underlying105 rfl (by rw [size_form]; rfl)) rfl ?_
     rw [HFX.out]
     exact ⟨rfl, HUZ.out⟩
   | some r =>
     have h0 : thereR no = r := by
      unfold thereR
      rw [hm]
      rfl
     rw [h0]
     clear h0
     have HR0 := zH (mfind_pos hm)
     obtain ⟨r1, r2⟩ := r
     refine wS (.bool false) (ix_eql rfl rfl rfl (decide_eq_false HR0.out)) ?_;simp only [zz]
     go_upto_region 6 with fail
     refine wp_region_lit ?_
     refine wM (.int .i64 dd) ?_;simp only [zz]
     by_cases h3 : dd = 3
     ·refine wS (.bool true) (ix_eql rfl rfl rfl (decide_eq_true h3)) ?_;simp only [zz];refine wM (.bool true) ?_;simp only [zz];refine wM (.int .i64 no) ?_;simp only [zz]
      by_cases h4 : no = 4
      ·have HFX := zH (show formE dd no = (⟨r1, 10, dd⟩, 0) from by
        rw [hFE]
        unfold mform
        rw [hm]
        show ((⟨r1, r2 - ((unsaid dd.toNat no).length : Nat), ((dd.toNat : Nat) : Int)⟩ : Fm), (0 : Int)) = _
        rw [show ((dd.toNat : Nat) : Int) = dd from by omega, show unsaid dd.toNat no = [48, 48] from by unfold unsaid; rw [if_pos ⟨by omega, h4⟩], show r2 = 12 from mfind_four (r := (r1, r2)) (h4 ▸ hm)]; rfl)
       refine wS (.bool true) (ix_eql rfl rfl rfl (decide_eq_true h4)) ?_;simp only [zz];refine wS (.bool true) (ix_pickT rfl rfl rfl) ?_;simp only [zz]
       clear hFE hm h3 h4 hd3
       go_upto_region 7 with fail
       refine wp_region_lit ?_
       refine wA (.int .i64 10) ?_;simp only [zz]
       go_upto_region 8 with fail
       refine wp_region_lit ?_
       refine wM (.int .i64 r1) ?_;simp only [zz];refine wM (.int .i64 10) ?_;simp only [zz];refine wM (.int .i64 dd) ?_;simp only [zz];refine wS (.agg (fmA ⟨r1, 10, dd⟩)) (exec_build3 rfl rfl rfl rfl (build_fm3 _ _ _ _)) ?_;simp only [zz]
       refine wpList_store_row rfl 105 (.tmp 4) (.tmp 32) rfl (fmA ⟨r1, 10, dd⟩) HBgr.out rfl rfl rfl (by rw [size_form]; rfl) (fmA_one _) ?_
       intro w6 hb6 hu6
       have HBZ := zH hb6
       have HUZ := zH (above HT0.out HGR.out hu6)
       clear hb6 hu6
       try simp only [zz]
       refine wA (.int .i64 0) ?_;simp only [zz]
       go_wp2_with fail
       refine bodyPost_ret (v := .tuple #[.agg (fmA ⟨r1, 10, dd⟩), .int .i64 0]) (ret_cell2 rfl _ _ gr _ _ _ rfl rfl HBZ.out Tryz.underlying105 rfl (by rw [size_form]; rfl)) rfl ?_
       rw [HFX.out]
       exact ⟨rfl, HUZ.out⟩
      ·have HFX := zH (show formE dd no = (⟨r1, r2, dd⟩, 0) from by
        rw [hFE]
        unfold mform
        rw [hm]
        show ((⟨r1, r2 - ((unsaid dd.toNat no).length : Nat), ((dd.toNat : Nat) : Int)⟩ : Fm), (0 : Int)) = _
        rw [show ((dd.toNat : Nat) : Int) = dd from by omega, show unsaid dd.toNat no = [] from by unfold unsaid; rw [if_neg (fun h => h4 h.2)], show r2 - (([] : List UInt8).length : Nat) = r2 from by simp])
       refine wS (.bool false) (ix_eql rfl rfl rfl (decide_eq_false h4)) ?_;simp only [zz];refine wS (.bool false) (ix_pickT rfl rfl rfl) ?_;simp only [zz]
       clear hFE hm h3 h4 hd3
       go_upto_region 8 with fail
       refine wp_region_lit ?_
       refine wM (.int .i64 r1) ?_;simp only [zz];refine wM (.int .i64 r2) ?_;simp only [zz];refine wM (.int .i64 dd) ?_;simp only [zz];refine wS (.agg (fmA ⟨r1, r2, dd⟩)) (exec_build3 rfl rfl rfl rfl (build_fm3 _ _ _ _)) ?_;simp only [zz]
       refine wpList_store_row rfl 105 (.tmp 4) (.tmp 32) rfl (fmA ⟨r1, r2, dd⟩) HBgr.out rfl rfl rfl (by rw [size_form]; rfl) (fmA_one _) ?_
       intro w6 hb6 hu6
       have HBZ := zH hb6
       have HUZ := zH (above HT0.out HGR.out hu6)
       clear hb6 hu6
       try simp only [zz]
       refine wA (.int .i64 0) ?_;simp only [zz]
       go_wp2_with fail
       refine bodyPost_ret (v := .tuple #[.agg (fmA ⟨r1, r2, dd⟩), .int .i64 0]) (ret_cell2 rfl _ _ gr _ _ _ rfl rfl HBZ.out Tryz.underlying105 rfl (by rw [size_form]; rfl)) rfl ?_
       rw [HFX.out]
       exact ⟨rfl, HUZ.out⟩
     ·have HFX := zH (show formE dd no = (⟨r1, r2, dd⟩, 0) from by
       rw [hFE]
       unfold mform
       rw [hm]
       show ((⟨r1, r2 - ((unsaid dd.toNat no).length : Nat), ((dd.toNat : Nat) : Int)⟩ : Fm), (0 : Int)) = _
       rw [show ((dd.toNat : Nat) : Int) = dd from by omega, show unsaid dd.toNat no = [] from by unfold unsaid; rw [if_neg (fun h => h3 (by omega))], show r2 - (([] : List UInt8).length : Nat) = r2 from by simp])
      refine wS (.bool false) (ix_eql rfl rfl rfl (decide_eq_false h3)) ?_;simp only [zz];refine wM (.bool false) ?_;simp only [zz]
      refine wpList_skip (by go_simp) ?_
      simp only [zz]
      refine wpList_skip (by go_simp) ?_
      simp only [zz];refine wS (.bool false) (ix_pickF rfl rfl rfl) ?_;simp only [zz]
      clear hFE hm h3 hd3
      go_upto_region 8 with fail
      refine wp_region_lit ?_
      refine wM (.int .i64 r1) ?_;simp only [zz];refine wM (.int .i64 r2) ?_;simp only [zz];refine wM (.int .i64 dd) ?_;simp only [zz];refine wS (.agg (fmA ⟨r1, r2, dd⟩)) (exec_build3 rfl rfl rfl rfl (build_fm3 _ _ _ _)) ?_;simp only [zz]
      refine wpList_store_row rfl 105 (.tmp 4) (.tmp 32) rfl (fmA ⟨r1, r2, dd⟩) HBgr.out rfl rfl rfl (by rw [size_form]; rfl) (fmA_one _) ?_
      intro w6 hb6 hu6
      have HBZ := zH hb6
      have HUZ := zH (above HT0.out HGR.out hu6)
      clear hb6 hu6
      try simp only [zz]
      refine wA (.int .i64 0) ?_;simp only [zz]
      go_wp2_with fail
      refine bodyPost_ret (v := .tuple #[.agg (fmA ⟨r1, r2, dd⟩), .int .i64 0]) (ret_cell2 rfl _ _ gr _ _ _ rfl rfl HBZ.out Tryz.underlying105 rfl (by rw [size_form]; rfl)) rfl ?_
      rw [HFX.out]
      exact ⟨rfl, HUZ.out⟩
theorem ret_cell1 {P : Program} {fn : Func} {p : Tmp} {ty : TypeId} (h : fn.results = #[.cell p ty]) (tmps : Array Value) (w : World) (g : Nat) (t : TypeId) (cs : Array Value) (d : TypeDesc)
 (hp : tmps.getD p undef = .pointer (some ⟨g, 0, none⟩)) (hg : Blk w g t cs) (hu : P.underlying ty = some d) (hd : (match d with | .struct _ | .array _ _ => true | _ => false) = true) (hi : (P.info? ty).map (·.size) = some cs.size) :
 (results fn tmps).run P w = .ok (.agg cs) w := by
 have hp' : tmps[p]?.getD undef = .pointer (some ⟨g, 0, none⟩) := by simpa using hp
 simp only [results, h]
 simp [Sem.run_bind, Result.andThen, hp', asAddr, run_loadVar_row w g t ty cs (0, 0) d hg hu hd hi]
theorem number_walk {w : World} {dd sz : Int} :
 Calls Tryz.prog 57 #[.int .i64 dd, .int .i64 sz] w fun e w' => e = .returned (.agg (fmA ⟨1, sz, dd⟩)) ∧ Turn nowhere w w' := by
 have hu := (Turn.refl nowhere w).alloc (.cells (fmA fm0) 105)
 have hb := Blk.new w 105 (fmA fm0)
 obtain ⟨gr, hgr⟩ : ∃ gr, gr = w.heap.size := ⟨_, rfl⟩
 rw [← hgr] at hb
 have HGRE := zH hgr
 have HGR := zH (show w.heap.size ≤ gr from by omega)
 have HT0 := zH hu
 have HBgr := zH hb
 clear hu hb hgr
 go_enter Tryz.func57, Tryz.ntmps57
 go_upto_region 1 with fail
 have e2 := HGRE.out
 rw [← e2]
 clear e2 HGRE
 change Code.wp _ _ _ _ (w.alloc (.cells (fmA fm0) 105))
 generalize World.alloc w (.cells (fmA fm0) 105) = w1 at *
 refine wp_region_lit ?_
 refine wM (.int .i64 sz) ?_;simp only [zz];refine wM (.int .i64 dd) ?_;simp only [zz];refine wS (.agg (fmA ⟨1, sz, dd⟩)) (exec_build3 rfl rfl rfl rfl (build_fm3 _ _ _ _)) ?_;simp only [zz]
 refine wpList_store_row rfl 105 (.tmp 4) (.tmp 7) rfl (fmA ⟨1, sz, dd⟩) HBgr.out rfl rfl rfl (by rw [size_form]; rfl) (fmA_one _) ?_
 intro w6 hb6 hu6
 have HBZ := zH hb6
 have HUZ := zH (above HT0.out HGR.out hu6)
 clear hb6 hu6
 go_wp2_with fail
 refine bodyPost_ret (v := .agg (fmA ⟨1, sz, dd⟩)) (ret_cell1 rfl _ _ gr _ _ _ rfl HBZ.out Tryz.underlying105 rfl (by rw [size_form]; rfl)) rfl ?_
 exact ⟨rfl, HUZ.out⟩
def kindC : List Value := mtypes.map fun n => .int .i64 n
theorem build_kinds (W : World) : (Instr.buildSlice 163 16 #[(0, .int .i64 100), (1, .int .i64 101), (2, .int .i64 110), (3, .int .i64 200), (4, .int .i64 201), (5, .int .i64 210), (6, .int .i64 220), (7, .int .i64 221), (8, .int .i64 230), (9, .int .i64 420), (10, .int .i64 421), (11, .int .i64 430), (12, .int .i64 500), (13, .int .i64 510), (14, .int .i64 800), (15, .int .i64 810)]).run Tryz.prog W = .ok (.slice (some ⟨W.heap.size, 0, none⟩) 16 16) (W.alloc (.cells kindC.toArray 3)) := by kernel_rfl
theorem bx_slices {P : Program} {a : Act} {o : Oper} {t : TypeId} {n : Nat} {els : Array (Nat × Operand)} {q : Value} {W W' : World} (ho : o.op = .buildSlice t n els) {vs : Array (Nat × Value)} (hv : (els.map fun (i, x) => (i, a.eval x)) = vs) (h : (Instr.buildSlice t n vs).run P W = .ok q W') : (execOp a.eval o).run P W = .ok (.value q) W' := by
 unfold execOp
 simp only [ho, hv, h, Sem.run_bind, Sem.run_pure, Result.andThen_ok]
theorem size_int1 : (Tryz.prog.info? 3).map (·.size) = some 1 := by kernel_rfl
theorem kind_no {n : Int} {k : Nat} (h : (mtypes.take k).contains n = false) {x : Int} (hx : mtypes[k]? = some x) (hne : ¬ x = n) : (mtypes.take (k + 1)).contains n = false := by
 rw [List.take_add_one, hx]
 simp only [List.contains_eq_mem, Option.toList_some, List.mem_append, List.mem_singleton, decide_eq_false_iff_not, not_or] at h ⊢
 exact ⟨h, fun e => hne e.symm⟩
theorem kind_yes {n : Int} {k : Nat} {x : Int} (hx : mtypes[k]? = some x) (he : x = n) : mtypes.contains n = true := by
 subst he
 exact List.contains_iff_mem.2 (List.mem_of_getElem? hx)
theorem kind_walk {w : World} {n : Int} :
 Calls Tryz.prog 76 #[.int .i64 n] w fun e w' => e = .returned (.bool (mtypes.contains n)) ∧ Turn nowhere w w' := by
 go_enter Tryz.func76, Tryz.ntmps76
 go_upto_region 1 with fail
 refine wp_region_lit ?_
 refine wR (v := .slice (some ⟨w.heap.size, 0, none⟩) 16 16) (w' := w.alloc (.cells kindC.toArray 3)) rfl (bx_slices rfl (by simp only [List.map_toArray, List.map_cons, List.map_nil]; rfl) (build_kinds w)) ?_
 simp only [zz]
 have hb := Blk.new w 3 kindC.toArray
 have hu := (Turn.refl nowhere w).alloc (.cells kindC.toArray 3)
 obtain ⟨g, hg⟩ : ∃ g, g = w.heap.size := ⟨_, rfl⟩
 rw [← hg] at hb ⊢
 clear hg
 generalize w.alloc (.cells kindC.toArray 3) = w1 at *
 have HB := zH hb
 have HT0 := zH hu
 clear hb hu
 refine wA (.slice (some ⟨g, 0, none⟩) 16 16) ?_;simp only [zz]
 go_upto_region 2 with fail
 refine wp_region_lit ?_
 refine wA (.int .i64 0) ?_;simp only [zz]
 go_wp2_with fail
 go_loopg [4] 16 (fun gk jv wr => ∃ k : Nat, k + gk = 16 ∧ jv = .int .i64 (k : Int) ∧ wr = w1 ∧ (mtypes.take k).contains n = false)
 case atStart => exact ⟨0, by omega, rfl, rfl, rfl⟩
 obtain ⟨k, hk, rfl, rfl, hno⟩ := hrel
 have HK := zH hk
 have HNO := zH hno
 clear hk hno
 go_upto_region 3 with fail
 refine wp_region_lit ?_
 refine wM (.int .i64 (k : Int)) ?_;simp only [zz];refine wM (.slice (some ⟨g, 0, none⟩) 16 16) ?_;simp only [zz];refine wS (.int .i64 16) (gx_len rfl rfl Tryz.underlying163) ?_;simp only [zz]
 by_cases hlt : k < 16
 ·refine wS (.bool true) (ix_lss rfl rfl rfl (decide_eq_true (by omega))) ?_;simp only [zz]
  have HLT := zH hlt
  have y1 : (k : Int) < 16 := by omega
  obtain ⟨x, hx⟩ : ∃ x, mtypes[k]? = some x := ⟨_, List.getElem?_eq_getElem (show k < mtypes.length from hlt)⟩
  have HX := zH hx
  have HCE := zH (show World.cell? wr ⟨g, 0 + k * 1, none⟩ = some (.int .i64 x) from by
   rw [show 0 + k * 1 = k from by omega, HB.out.cell]
   show (mtypes.map fun n => Value.int .i64 n).toArray[k]? = _
   rw [List.getElem?_toArray, List.getElem?_map, hx]
   rfl)
  clear hlt hx
  go_upto_region 5 with fail
  refine wp_region_lit ?_
  refine wM (.slice (some ⟨g, 0, none⟩) 16 16) ?_;simp only [zz];refine wM (.int .i64 (k : Int)) ?_;simp only [zz];refine wS (.pointer (some ⟨g, 0 + k * 1, none⟩)) (gx_iaddr (i := k) (sz := 1) rfl rfl rfl Tryz.underlying163 size_int1 HLT.out rfl) ?_;simp only [zz];refine wS (.int .i64 x) (xL HCE.out) ?_;simp only [zz];refine wM (.int .i64 n) ?_;simp only [zz]
  by_cases heq : x = n
  ·refine wS (.bool true) (ix_eql rfl rfl rfl (decide_eq_true heq)) ?_;simp only [zz]
   have HC := zH (kind_yes HX.out heq)
   clear heq
   go_wp2_with fail
   go_ret
   rw [HC.out]
   exact ⟨rfl, HT0.out⟩
  ·refine wS (.bool false) (ix_eql rfl rfl rfl (decide_eq_false heq)) ?_;simp only [zz]
   have HN2 := zH (kind_no HNO.out HX.out heq)
   clear heq
   go_wp2_with fail
   go_roundg (gk - 1)
   case measure => have := HK.out; have := HLT.out; omega
   case rel => exact ⟨k + 1, by have := HK.out; have := HLT.out; omega, by go_num, rfl, HN2.out⟩
 ·refine wS (.bool false) (ix_lss rfl rfl rfl (decide_eq_false (by omega))) ?_;simp only [zz]
  have HC := zH (show mtypes.contains n = false from by
   have h1 := HNO.out
   rwa [List.take_of_length_le (show mtypes.length ≤ k from by show 16 ≤ k; omega)] at h1)
  clear hlt
  go_wp2_with fail
  go_ret
  rw [HC.out]
  exact ⟨rfl, HT0.out⟩
theorem checkFs_at {fs : List Fld} {last : Int} {j : Nat} {f : Fld} (hf : fs[j]? = some f) : checkFs last (fs.drop j) = if fieldBad last f = 0 then checkFs f.1 (fs.drop (j + 1)) else fieldBad last f := by
 obtain ⟨hj, e⟩ := List.getElem?_eq_some_iff.1 hf
 rw [List.drop_eq_getElem_cons hj, e]
 rfl
theorem formE1 (no : Int) : formE 1 no = match mform 1 no with | some m => (m, (0 : Int)) | none => (fm0, (52 : Int)) := by
 unfold formE
 rw [if_pos (by decide)] <;> rfl
def Txts (fs : List Fld) : Prop := ∀ f ∈ fs, f.2.length ≤ 9223372036854775807
theorem rCheck_walk {w : World} {ty : Int} {A : Option Addr} {n c : Nat} {fs : List Fld} (hf : Fl w A n fs) (htx : Txts fs) :
 Calls Tryz.prog 55 #[msgV ty A n c] w fun e w' => e = .returned (.int .i64 (mcheck ty fs)) ∧ Turn nowhere w w' := by
 have HF := zH hf
 have HTX := zH htx
 have HNL := zH hf.1
 have y9 : (n : Int) ≤ 140737488355328 := by
  have := hf.2.1
  omega
 clear hf htx
 unfold msgV
 go_enter Tryz.func55, Tryz.ntmps55
 go_upto_region 1 with fail
 have hb0 := Blk.new w 29 #[.int .i64 ty, .slice A n c]
 have hu0 := (Turn.refl nowhere w).alloc (.cells #[.int .i64 ty, .slice A n c] 29)
 obtain ⟨gm, hg0⟩ : ∃ g, g = w.heap.size := ⟨_, rfl⟩
 rw [← hg0] at hb0 ⊢
 clear hg0
 generalize w.alloc (.cells #[.int .i64 ty, .slice A n c] 29) = w1 at *
 have HBgm := zH hb0
 have HT0 := zH hu0
 clear hb0 hu0
 refine wp_region_lit ?_
 refine wS (.pointer (some ⟨gm, 0, none⟩)) (xF 0 0) ?_;simp only [zz];refine wS (.int .i64 ty) (xL (HBgm.out.cell 0)) ?_;simp only [zz]
 refine wpList_op rfl fun K9 HK9 => ?_
 go_wp2_with fail
 refine (kind_walk).mono ?_
 rintro e w2 ⟨rfl, htx⟩
 refine HK9.out _ _ ?_
 clear HK9
 try simp only [zz]
 have HT2 := zH htx
 clear htx
 cases hty : mtypes.contains ty with
 | false =>
   have HRR9 := zH (show mcheck ty fs = 51 from by unfold mcheck; rw [if_pos hty])
   clear hty
   refine wS (.bool true) (ix_not (b := false) rfl rfl) ?_;simp only [zz]
   go_wp2_with fail
   go_ret
   rw [HRR9.out]
   exact ⟨rfl, (HT0.out.next HT2.out)⟩
 | true =>
   have HTY := zH hty
   clear hty
   refine wS (.bool false) (ix_not (b := true) rfl rfl) ?_;simp only [zz]
   go_upto_region 3 with fail
   refine wp_region_lit ?_
   refine wS (.pointer (some ⟨gm, 1, none⟩)) (xF 0 1) ?_;simp only [zz];refine wS (.slice A n c) (exec_load1 rfl rfl (by kernel_rfl) ((HBgm.out.turn HT2.out (fun e => e)).cell 1)) ?_;simp only [zz];refine wS (.int .i64 (n : Int)) (gx_len rfl rfl Tryz.underlying27) ?_;simp only [zz]
   by_cases hl : 24 < n
   ·have HRR9 := zH (show mcheck ty fs = 5 from by unfold mcheck; rw [if_neg (by rw [HTY.out]; decide), if_pos (by rw [HNL.out]; exact hl)])
    refine wS (.bool true) (ix_gtr rfl rfl rfl (decide_eq_true (by omega))) ?_;simp only [zz]
    clear hl
    go_wp2_with fail
    go_ret
    rw [HRR9.out]
    exact ⟨rfl, (HT0.out.next HT2.out)⟩
   ·have HMC := zH (show mcheck ty fs = checkFs 0 fs from by unfold mcheck; rw [if_neg (by rw [HTY.out]; decide), if_neg (by rw [HNL.out]; exact hl)])
    refine wS (.bool false) (ix_gtr rfl rfl rfl (decide_eq_false (by omega))) ?_;simp only [zz]
    clear hl
    go_upto_region 5 with fail
    refine wp_region_lit ?_
    refine wA (.int .i64 0) ?_;simp only [zz]
    go_upto_region 6 with fail
    refine wp_region_lit ?_
    refine wA (.int .i64 0) ?_;simp only [zz]
    go_wp2_with fail
    go_loopg [3, 4] n (fun gk lv jv wr => ∃ (j : Nat) (last : Int), j + gk = n ∧ jv = .int .i64 (j : Int) ∧ lv = .int .i64 last ∧ checkFs last (fs.drop j) = checkFs 0 fs ∧ Turn nowhere w2 wr)
    case atStart => exact ⟨0, 0, by omega, rfl, rfl, rfl, Turn.refl _ _⟩
    obtain ⟨j, last, hjl, rfl, rfl, hck, htr⟩ := hrel
    have HJL := zH hjl
    have HCK := zH hck
    have HTR := zH htr
    clear hjl hck htr
    have HB2 := zH (HBgm.out.turn (HT2.out.next HTR.out) (fun e => e))
    go_upto_region 7 with fail
    refine wp_region_lit ?_
    refine wM (.int .i64 (j : Int)) ?_;simp only [zz];refine wS (.pointer (some ⟨gm, 1, none⟩)) (xF 0 1) ?_;simp only [zz];refine wS (.slice A n c) (xL (HB2.out.cell 1)) ?_;simp only [zz];refine wS (.int .i64 (n : Int)) (gx_len rfl rfl Tryz.underlying27) ?_;simp only [zz]
    by_cases hlt : j < n
    ·have HLT := zH hlt
     have y1 : (j : Int) < (n : Int) := by omega
     obtain ⟨bF, oF, rfl, hr⟩ := (HF.out.still ((HT0.out.next HT2.out).next HTR.out)).2.2 (by omega)
     obtain ⟨f, hf⟩ : ∃ f, fs[j]? = some f := ⟨_, List.getElem?_eq_getElem (show j < fs.length from by rw [HNL.out]; exact hlt)⟩
     have HRR := zH (hr j f hf)
     have HCA := zH (checkFs_at (last := last) hf)
     have HTF := zH (HTX.out f (List.mem_of_getElem? hf))
     clear hr hf hlt
     refine wS (.bool true) (ix_lss rfl rfl rfl (decide_eq_true y1)) ?_;simp only [zz]
     go_upto_region 9 with fail
     refine wp_region_lit ?_
     refine wS (.pointer (some ⟨gm, 1, none⟩)) (xF 0 1) ?_;simp only [zz];refine wS (.slice (some ⟨bF, oF, none⟩) n c) (xL (HB2.out.cell 1)) ?_;simp only [zz];refine wM (.int .i64 (j : Int)) ?_;simp only [zz];refine wS (.pointer (some ⟨bF, oF + j * 2, none⟩)) (gx_iaddr (i := j) (sz := 2) rfl rfl rfl Tryz.underlying27 size_field HLT.out (by omega)) ?_;simp only [zz];refine wS (.pointer (some ⟨bF, oF + j * 2, none⟩)) (xF (oF + j * 2) 0) ?_;simp only [zz];refine wS (.int .i64 f.1) (xL (HRR.out 0 _ rfl)) ?_;simp only [zz]
     have hFm := rForm_walk (w := wr) (dd := 1) (no := f.1)
     rw [formE1] at hFm
     cases hm : mform 1 f.1 with
     | none =>
       rw [hm] at hFm
       refine wpList_op rfl fun K9 HK9 => ?_
       go_wp2_with fail
       refine (hFm).mono ?_
       rintro e w3 ⟨rfl, htx⟩
       refine HK9.out _ _ ?_
       clear HK9
       try simp only [zz]
       clear hFm
       have HT3 := zH htx
       clear htx
       refine wM (.tuple #[.agg (fmA fm0), .int .i64 52]) ?_;simp only [zz];refine wE (.agg (fmA fm0)) ?_;simp only [zz];refine wE (.int .i64 52) ?_;simp only [zz]
       refine wpList_new 105 (.tmp 5) (.tmp 30) (fmA fm0) rfl rfl (zero_fm _) rfl rfl rfl rfl rfl rfl (by rw [size_form]; rfl) (fmA_one _) ?_
       intro w4 g4 _ hbx hux
       simp only [zz]
       have HBg4 := zH hbx
       have HT4 := zH hux
       clear hbx hux
       refine wA (.int .i64 52) ?_;simp only [zz]
       have HBD := zH (show fieldBad last f = 52 from by unfold fieldBad; rw [hm])
       clear hm
       have HRR9 := zH (show mcheck ty fs = 52 from by rw [HMC.out, ← HCK.out, HCA.out, HBD.out, if_neg (by decide)])
       go_upto_region 10 with fail
       refine wp_region_lit ?_
       refine wM (.int .i64 52) ?_;simp only [zz];refine wS (.bool true) (ix_neq rfl rfl rfl (by decide)) ?_;simp only [zz]
       go_wp2_with fail
       go_ret
       rw [HRR9.out]
       exact ⟨rfl, ((((HT0.out.next HT2.out).next HTR.out).next HT3.out).next HT4.out)⟩
     | some m =>
       rw [hm] at hFm
       refine wpList_op rfl fun K9 HK9 => ?_
       go_wp2_with fail
       refine (hFm).mono ?_
       rintro e w3 ⟨rfl, htx⟩
       refine HK9.out _ _ ?_
       clear HK9
       try simp only [zz]
       clear hFm
       have HT3 := zH htx
       clear htx
       refine wM (.tuple #[.agg (fmA m), .int .i64 0]) ?_;simp only [zz];refine wE (.agg (fmA m)) ?_;simp only [zz];refine wE (.int .i64 0) ?_;simp only [zz]
       refine wpList_new 105 (.tmp 5) (.tmp 30) (fmA m) rfl rfl (zero_fm _) rfl rfl rfl rfl rfl rfl (by rw [size_form]; rfl) (fmA_one _) ?_
       intro w4 g4 _ hbx hux
       simp only [zz]
       have HBg4 := zH hbx
       have HT4 := zH hux
       clear hbx hux
       refine wA (.int .i64 0) ?_;simp only [zz]
       have HM := zH hm
       clear hm
       have HB4 := zH (HB2.out.turn (HT3.out.next HT4.out) (fun e => e))
       have HR4 := zH (show w4.rangeAt bF (oF + j * 2) (fldA f).toList from fun i v hv => ((HT3.out.next HT4.out).cell (World.block_lt_of_cell? _ _ (HRR.out i v hv)) (fun e => e)).trans (HRR.out i v hv))
       go_upto_region 10 with fail
       refine wp_region_lit ?_
       refine wM (.int .i64 0) ?_;simp only [zz];refine wS (.bool false) (ix_neq rfl rfl rfl (by decide)) ?_;simp only [zz];refine wM (.bool false) ?_;simp only [zz];refine wS (.pointer (some ⟨gm, 1, none⟩)) (xF 0 1) ?_;simp only [zz];refine wS (.slice (some ⟨bF, oF, none⟩) n c) (xL (HB4.out.cell 1)) ?_;simp only [zz];refine wM (.int .i64 (j : Int)) ?_;simp only [zz];refine wS (.pointer (some ⟨bF, oF + j * 2, none⟩)) (gx_iaddr (i := j) (sz := 2) rfl rfl rfl Tryz.underlying27 size_field HLT.out (by omega)) ?_;simp only [zz];refine wS (.pointer (some ⟨bF, oF + j * 2, none⟩)) (xF (oF + j * 2) 0) ?_;simp only [zz];refine wS (.int .i64 f.1) (xL (HR4.out 0 _ rfl)) ?_;simp only [zz];refine wM (.int .i64 last) ?_;simp only [zz]
       by_cases hla : f.1 ≤ last
       ·have HBD := zH (show fieldBad last f = 52 from by unfold fieldBad; rw [HM.out]; show (if f.1 ≤ last then (52 : Int) else _) = 52; rw [if_pos hla])
        have HRR9 := zH (show mcheck ty fs = 52 from by rw [HMC.out, ← HCK.out, HCA.out, HBD.out, if_neg (by decide)])
        refine wS (.bool true) (ix_leq rfl rfl rfl (decide_eq_true hla)) ?_;simp only [zz];refine wS (.bool true) (ix_pickF rfl rfl rfl) ?_;simp only [zz]
        clear hla
        go_wp2_with fail
        go_ret
        rw [HRR9.out]
        exact ⟨rfl, ((((HT0.out.next HT2.out).next HTR.out).next HT3.out).next HT4.out)⟩
       ·have HBD := zH (show fieldBad last f = if m.check f.2 = 0 then 0 else 41 from by unfold fieldBad; rw [HM.out]; show (if f.1 ≤ last then (52 : Int) else _) = _; rw [if_neg hla])
        refine wS (.bool false) (ix_leq rfl rfl rfl (decide_eq_false hla)) ?_;simp only [zz];refine wS (.bool false) (ix_pickF rfl rfl rfl) ?_;simp only [zz]
        clear hla
        go_upto_region 12 with fail
        refine wp_region_lit ?_
        refine wS (.pointer (some ⟨gm, 1, none⟩)) (xF 0 1) ?_;simp only [zz];refine wS (.slice (some ⟨bF, oF, none⟩) n c) (xL (HB4.out.cell 1)) ?_;simp only [zz];refine wM (.int .i64 (j : Int)) ?_;simp only [zz];refine wS (.pointer (some ⟨bF, oF + j * 2, none⟩)) (gx_iaddr (i := j) (sz := 2) rfl rfl rfl Tryz.underlying27 size_field HLT.out (by omega)) ?_;simp only [zz];refine wS (.pointer (some ⟨bF, oF + j * 2, none⟩)) (xF (oF + j * 2) 0) ?_;simp only [zz];refine wS (.int .i64 f.1) (xL (HR4.out 0 _ rfl)) ?_;simp only [zz];refine wA (.int .i64 f.1) ?_;simp only [zz]
        go_upto_region 13 with fail
        have hS0 : (fun W : World => Blk W gm 29 #[.int .i64 ty, .slice (some ⟨bF, oF, none⟩) n c] ∧ Blk W g4 105 (fmA m) ∧ W.rangeAt bF (oF + j * 2) (fldA f).toList) w4.drew := ⟨HB4.out.drew, HBg4.out.drew, HR4.out⟩
        have HTD := zH (Turn.drew (Turn.refl nowhere w4))
        refine wp_region_alw (fun W => Blk W gm 29 #[.int .i64 ty, .slice (some ⟨bF, oF, none⟩) n c] ∧ Blk W g4 105 (fmA m) ∧ W.rangeAt bF (oF + j * 2) (fldA f).toList) (by kernel_rfl) ?_
        generalize w4.drew = w5 at *
        refine aU 0 (.agg (fmA m)) rfl (fun W hW => gx_loads rfl rfl (blk_range hW.2.1) Tryz.underlying105 rfl (by rw [size_form]; rfl)) hS0 ?_;simp only [zz];refine aU 1 (.pointer (some ⟨gm, 1, none⟩)) rfl (fun W hW => xF 0 1) hS0 ?_;simp only [zz];refine aU 2 (.slice (some ⟨bF, oF, none⟩) n c) rfl (fun W hW => xL (hW.1.cell 1)) hS0 ?_;simp only [zz];refine aM 3 (.int .i64 (j : Int)) hS0 ?_;simp only [zz];refine aU 4 (.pointer (some ⟨bF, oF + j * 2, none⟩)) rfl (fun W hW => gx_iaddr (i := j) (sz := 2) rfl rfl rfl Tryz.underlying27 size_field HLT.out (by omega)) hS0 ?_;simp only [zz];refine aU 5 (.pointer (some ⟨bF, oF + j * 2 + 1, none⟩)) rfl (fun W hW => xF (oF + j * 2) 1) hS0 ?_;simp only [zz];refine aU 6 (strV f.2) rfl (fun W hW => xL (hW.2.2 1 _ rfl)) hS0 ?_;simp only [zz]
        refine alw_step (i := 7) (by kernel_rfl) rfl rfl ?_
        intro K1 HK1
        go_wp2_with fail
        refine (rcheck_walk (f := m) w5 HTF.out).mono ?_
        rintro e w6 ⟨rfl, ht6⟩
        have hS1 : (fun W : World => Blk W gm 29 #[.int .i64 ty, .slice (some ⟨bF, oF, none⟩) n c] ∧ Blk W g4 105 (fmA m) ∧ W.rangeAt bF (oF + j * 2) (fldA f).toList) w6 := ⟨hS0.1.turn ht6 (fun e => e), hS0.2.1.turn ht6 (fun e => e), fun i v hv => (ht6.cell (World.block_lt_of_cell? _ _ (hS0.2.2 i v hv)) (fun e => e)).trans (hS0.2.2 i v hv)⟩
        refine HK1.out _ _ ⟨hS1, ?_⟩
        have HT6 := zH ht6
        clear HK1 hS0 ht6
        try simp only [zz]
        by_cases hch : m.check f.2 = 0
        ·refine aU 8 (.bool false) rfl (fun W hW => ix_neq rfl rfl rfl (by rw [hch]; decide)) hS1 ?_;simp only [zz]
         refine alw_done rfl ?_
         clear hS1
         refine NoPanic.normal ?_
         have HC2 := zH (show checkFs f.1 (fs.drop (j + 1)) = checkFs 0 fs from by rw [← HCK.out, HCA.out, HBD.out, if_pos hch, if_pos rfl])
         clear hch
         go_wp2_with fail
         go_roundg (gk - 1)
         case measure => have := HJL.out; have := HLT.out; omega
         case rel => exact ⟨j + 1, f.1, by have := HJL.out; have := HLT.out; omega, by go_num, rfl, HC2.out, ((((HTR.out.next HT3.out).next HT4.out).next HTD.out).next HT6.out)⟩
        ·refine aU 8 (.bool true) rfl (fun W hW => ix_neq rfl rfl rfl (decide_eq_true hch)) hS1 ?_;simp only [zz]
         refine alw_done rfl ?_
         clear hS1
         refine NoPanic.normal ?_
         have HRR9 := zH (show mcheck ty fs = 41 from by rw [HMC.out, ← HCK.out, HCA.out, HBD.out, if_neg hch, if_neg (by decide)])
         clear hch
         go_wp2_with fail
         go_ret
         rw [HRR9.out]
         exact ⟨rfl, ((((((HT0.out.next HT2.out).next HTR.out).next HT3.out).next HT4.out).next HTD.out).next HT6.out)⟩
    ·have HRR9 := zH (show mcheck ty fs = 0 from by rw [HMC.out, ← HCK.out, List.drop_eq_nil_of_le (by rw [HNL.out]; omega)]; rfl)
     refine wS (.bool false) (ix_lss rfl rfl rfl (decide_eq_false (by omega))) ?_;simp only [zz]
     clear hlt
     go_wp2_with fail
     go_ret
     rw [HRR9.out]
     exact ⟨rfl, ((HT0.out.next HT2.out).next HTR.out)⟩
def moreV (q : Nat) : Value := .func (.func 38) #[] #[.pointer (some ⟨q, 0, none⟩)]
theorem exec_mf {P : Program} {a : Act} {o : Oper} {W : World} {fn : Fn} {x : Operand} {u : Value} (ho : o.op = .makeFunc fn #[] #[x]) (hx : a.eval x = u) : (execOp a.eval o).run P W = .ok (.value (.func fn #[] #[u])) W := by
 unfold execOp
 simp only [ho, List.map_toArray, List.map_cons, List.map_nil, hx]
 rfl
theorem build_fldM (no : Int) (t : List UInt8) (W : World) : (Instr.build 38 #[(0, .int .i64 no), (1, strV t)]).run Tryz.prog W = .ok (.agg (fldA (no, t))) W := by kernel_rfl
theorem build_msg2 (ty : Int) (A : Option Addr) (n c : Nat) (W : World) : (Instr.build 29 #[(0, .int .i64 ty), (1, .slice A n c)]).run Tryz.prog W = .ok (.agg #[.int .i64 ty, .slice A n c]) W := by kernel_rfl
theorem build_msg1 (ty : Int) (W : World) : (Instr.build 29 #[(0, .int .i64 ty)]).run Tryz.prog W = .ok (.agg #[.int .i64 ty, .slice none 0 0]) W := by kernel_rfl
theorem gx_build1 {P : Program} {a : Act} {o : Oper} {t : TypeId} {x0 : Operand} {u0 r : Value} {W : World} (ho : o.op = .build t #[(0, x0)]) (h0 : a.eval x0 = u0)
 (h : (Instr.build t #[(0, u0)]).run P W = .ok r W) : (execOp a.eval o).run P W = .ok (.value r) W := by
 unfold execOp
 simp only [ho, List.map_toArray, List.map_cons, List.map_nil, h0, h, Sem.run_bind, Sem.run_pure, Result.andThen_ok]
theorem bx_slice1 {P : Program} {a : Act} {o : Oper} {t : TypeId} {x : Operand} {u q : Value} {W W' : World} (ho : o.op = .buildSlice t 1 #[(0, x)]) (hx : a.eval x = u)
 (h : (Instr.buildSlice t 1 #[(0, u)]).run P W = .ok q W') : (execOp a.eval o).run P W = .ok (.value q) W' := by
 unfold execOp
 simp only [ho, List.map_toArray, List.map_cons, List.map_nil, hx, h, Sem.run_bind, Sem.run_pure, Result.andThen_ok]
def idxV (no : Int) (l : List Fld) : Int := if atM no l < l.length then ((atM no l : Nat) : Int) else -1
theorem more_walk {w : World} {f : Fld} {q : Nat} {no : Int} (hq : Blk w q 3 #[.int .i64 no]) :
 Calls Tryz.prog 38 #[.agg (fldA f), .pointer (some ⟨q, 0, none⟩)] w fun e w' => e = .returned (.bool (decide (no < f.1))) ∧ Turn nowhere w w' := by
 have hb0 := Blk.new w 38 (fldA f)
 have hu0 := (Turn.refl nowhere w).alloc (.cells (fldA f) 38)
 have HQ := zH (hq.turn hu0 (fun e => e))
 clear hq
 go_enter Tryz.func38, Tryz.ntmps38
 go_upto_region 1 with fail
 obtain ⟨g0, hg0⟩ : ∃ g, g = w.heap.size := ⟨_, rfl⟩
 rw [← hg0] at hb0 ⊢
 clear hg0
 have HB := zH hb0
 have HU := zH hu0
 clear hb0 hu0
 generalize w.alloc (.cells (fldA f) 38) = w1 at *
 refine wp_region_lit ?_
 refine wS (.pointer (some ⟨g0, 0, none⟩)) (xF 0 0) ?_;simp only [zz];refine wS (.int .i64 f.1) (xL (HB.out.cell 0)) ?_;simp only [zz];refine wS (.int .i64 no) (xL (HQ.out.cell 0)) ?_;simp only [zz];refine wS (.bool (decide (no < f.1))) (ix_gtr rfl rfl rfl rfl) ?_;simp only [zz];refine wA (.bool (decide (no < f.1))) ?_;simp only [zz]
 go_wp2_with fail
 go_ret
 exact ⟨rfl, HU.out⟩
theorem indexF_walk {w : World} {A : Option Addr} {n c q : Nat} {l : List Fld} {no : Int} (hf : Fl w A n l) (hq : Blk w q 3 #[.int .i64 no]) :
 Calls Tryz.prog 37 #[.slice A n c, moreV q] w fun e w' => e = .returned (.int .i64 (idxV no l)) ∧ Turn nowhere w w' := by
 have HF := zH hf
 have HN := zH hf.1
 have HQ := zH hq
 have y9 : (n : Int) ≤ 140737488355328 := by
  have := hf.2.1
  omega
 clear hf hq
 unfold moreV
 go_enter Tryz.func37, Tryz.ntmps37
 go_upto_region 1 with fail
 refine wp_region_lit ?_
 refine wM (.slice A n c) ?_;simp only [zz];refine wS (.int .i64 (n : Int)) (gx_len rfl rfl Tryz.underlying27) ?_;simp only [zz];refine wM (.int .i64 0) ?_;simp only [zz]
 go_wp2_with fail
 go_loopg [8] n (fun gk jv wr => ∃ j : Nat, j + gk = n ∧ jv = .int .i64 (j : Int) ∧ Turn nowhere w wr ∧ atM no l = j + atM no (l.drop j))
 case atStart => exact ⟨0, by omega, rfl, Turn.refl _ _, by rw [Nat.zero_add, List.drop_zero]⟩
 obtain ⟨j, hjl, rfl, htr, hat⟩ := hrel
 have HJL := zH hjl
 have HTR := zH htr
 have HAT := zH hat
 clear hjl htr hat
 go_upto_region 2 with fail
 refine wp_region_lit ?_
 by_cases hlt : j < n
 ·have HLT := zH hlt
  have y1 : (j : Int) < (n : Int) := by omega
  obtain ⟨bF, oF, rfl, hr⟩ := HF.out.2.2 (by omega)
  obtain ⟨f, hf⟩ : ∃ f, l[j]? = some f := ⟨_, List.getElem?_eq_getElem (show j < l.length from by rw [HN.out]; exact hlt)⟩
  have HRR := zH (show wr.rangeAt bF (oF + j * 2) (fldA f).toList from fun i v hv => (HTR.out.cell (World.block_lt_of_cell? _ _ (hr j f hf i v hv)) (fun e => e)).trans (hr j f hf i v hv))
  have HST := zH (at_step (no := no) hf)
  clear hr hf hlt
  refine wS (.bool true) (ix_lss rfl rfl rfl (decide_eq_true y1)) ?_;simp only [zz]
  go_upto_region 3 with fail
  refine wp_region_lit ?_
  refine wM (.int .i64 (j : Int)) ?_;simp only [zz];refine wA (.int .i64 (j : Int)) ?_;simp only [zz]
  go_upto_region 4 with fail
  refine wp_region_lit ?_
  refine wM (.func (.func 38) #[] #[.pointer (some ⟨q, 0, none⟩)]) ?_;simp only [zz];refine wM (.slice (some ⟨bF, oF, none⟩) n c) ?_;simp only [zz];refine wM (.int .i64 (j : Int)) ?_;simp only [zz];refine wS (.pointer (some ⟨bF, oF + j * 2, none⟩)) (gx_iaddr (i := j) (sz := 2) rfl rfl rfl Tryz.underlying27 size_field HLT.out (by omega)) ?_;simp only [zz];refine wS (.agg (fldA f)) (gx_loads rfl rfl HRR.out Tryz.underlying38 rfl (by rw [size_field]; rfl)) ?_;simp only [zz]
  refine wpList_op rfl fun K9 HK9 => ?_
  go_wp2_with fail
  refine (more_walk (HQ.out.turn HTR.out (fun e => e))).mono ?_
  rintro e w3 ⟨rfl, ht3⟩
  refine HK9.out _ _ ?_
  clear HK9
  try simp only [zz]
  have HT3 := zH (HTR.out.next ht3)
  clear ht3
  by_cases hlt : no < f.1
  ·have HE := zH (show idxV no l = (j : Int) from by
    unfold idxV
    have h := HAT.out
    rw [HST.out, if_pos hlt] at h
    rw [if_pos (by have := HLT.out; have := HN.out; omega)]
    omega)
   rw [decide_eq_true hlt]
   clear hlt
   go_wp2_with fail
   go_ret
   rw [HE.out]
   exact ⟨rfl, HT3.out⟩
  ·have HA2 := zH (show atM no l = (j + 1) + atM no (l.drop (j + 1)) from by
    have h := HAT.out
    rw [HST.out, if_neg hlt] at h
    omega)
   rw [decide_eq_false hlt]
   clear hlt
   go_wp2_with fail
   go_roundg (gk - 1)
   case measure => have := HJL.out; have := HLT.out; omega
   case rel => exact ⟨j + 1, by have := HJL.out; have := HLT.out; omega, by go_num, HT3.out, HA2.out⟩
 ·refine wS (.bool false) (ix_lss rfl rfl rfl (decide_eq_false (by omega))) ?_;simp only [zz]
  have HE := zH (show idxV no l = -1 from by
   unfold idxV
   have h := HAT.out
   have := HN.out
   rw [at_end (by omega)] at h
   rw [if_neg (by omega)])
  clear hlt
  go_wp2_with fail
  go_ret
  rw [HE.out]
  exact ⟨rfl, HTR.out⟩
end Go.Proofs.YtkagijifkpoplaaGreatDoor
