/-
  Routes: the sorted keys of a map; the table's List: the walk. No conditions.
-/
import Derived.Test.YtihmpbilbnajpaaRtT
namespace Go.Proofs.Ytihmpbilbnajpaa
open Go.RowKit
open Ix
open Rt (R)
open Go.Maps Go.Sort Go.Shelf
set_option linter.unusedVariables false
set_option linter.unusedSimpArgs false
theorem rt_sorts (m : Nat) : AnyZ.SortsIn Try.prog Try.sortedA_ren Fence.wide m :=
  ⟨fun blk off cap ss W hH hblk hsz => callsIn_wide.2 (AnyM.slices_Sort_string Try.sortA blk off cap ss W hH hblk hsz),
   fun p cap W => callsIn_wide.2 (AnyM.slices_Sort_string_none Try.sortA p cap W)⟩
theorem keys_walk (mb : Nat) (w : World) : Calls Try.prog 32 #[.map (some mb)] w fun e w' => e = .returned (.func (.func 38) #[] #[.pointer (some ⟨w.heap.size, 0, none⟩)]) ∧ w' = w.alloc (.cells #[.map (some mb)] 55) :=
  callsIn_wide.1 (AnyZ.keys_in Try.keysA Fence.wide 5 trivial rfl (some mb) w)
theorem size_str : (Try.prog.info? 9).map (·.size) = some 1 := by kernel_rfl
theorem flat_enc : ∀ l : List (Key × Value), (l.map fun x => [strV x.1]).flatten = (l.map (·.1)).map encStr
  | [] => rfl
  | x :: l => by
    rw [List.map_cons, List.flatten_cons, flat_enc l]
    rfl
set_option maxHeartbeats 1000000 in
theorem sorted_walk {w : World} {mb : Nat} {l : List (Key × Value)} (h : Mp w (tK : KK Try.prog 9 Key) mb l) (h32 : l.length ≤ 32) : Calls Try.prog 31 #[.func (.func 38) #[] #[.pointer (some ⟨w.heap.size, 0, none⟩)]] (w.alloc (.cells #[.map (some mb)] 55)) fun e w' =>
    ∃ A c, e = .returned (.slice A l.length c) ∧ Orw w' w.heap.size 9 1 (.slice A l.length c) (l.map fun x => [strV x.1]) ∧ Turn nowhere w w' := by
  obtain ⟨D0, hD⟩ : ∃ D, D = dat (tK : KK Try.prog 9 Key) l := ⟨_, rfl⟩
  have hown := h.own
  rw [← hD] at hown
  have hsz : Maps.size D0 = l.length := by rw [hD, dat_size]
  have hk : strKeys D0 = l.map (·.1) := by rw [hD]; exact dat_keys _ _
  have hbl := hown.lt
  have hseq : SeqGives Fence.wide 2 Try.prog 38 #[.pointer (some ⟨w.heap.size, 0, none⟩)] encStr (fun ss => ss.Perm (strKeys D0)) (Maps.size D0) (w.alloc (.cells #[.map (some mb)] 55)) :=
    AnyZ.keys_gives (ρ := Try.keysA_ren) { Try.keysA with } Fence.wide _ trivial rfl (by omega) w.heap.size mb l.length D0 _ (by simp) (by simp) (by
      obtain ⟨es, clock, hb, Ft, hs, hD⟩ := hown
      exact ⟨es, clock, (Below.heap_alloc _ _ mb hbl).trans hb, Ft, hs, hD⟩)
  have cS := AnyZ.sorted_in Try.sortedA Fence.wide 5 trivial trivial trivial trivial rfl (by omega) (rt_sorts _) (enters_of Try.func37 (by kernel_rfl) rfl) 38 #[.pointer (some ⟨w.heap.size, 0, none⟩)] trivial (enters_of Try.func38 (by kernel_rfl) rfl) _ _ (by rw [hsz]; unfold maxLen; omega) (by rw [hsz]; omega) _ hseq
  change CallsIn _ _ Try.prog 31 _ _ _ at cS
  refine (callsIn_wide.1 cS).mono ?_
  rintro e w' ⟨v, ss, rfl, hS, hrow, hnil, hb⟩
  have hS : ss.Perm (strKeys D0) := hS
  rw [hk] at hS
  have hsk := sort_keys (l := l) h.srt hS
  have hl : ss.length = l.length := by rw [hS.length_eq, List.length_map]
  rw [hsk, hl] at hrow
  have hro : Orw w' w.heap.size 9 1 v (l.map fun x => [strV x.1]) := by
    refine Orw.less ⟨fun r hr => ?_, ?_⟩ (show w.heap.size ≤ (w.alloc (.cells #[.map (some mb)] 55)).heap.size by simp)
    · obtain ⟨x, _, rfl⟩ := List.mem_map.1 hr
      refine ⟨rfl, fun u hu => ?_⟩
      have hu : u ∈ [strV x.1] := hu
      rw [List.mem_singleton.1 hu]
      rfl
    · rw [List.length_map]
      have e : (l.map fun x => [strV x.1]).flatten = (l.map (·.1)).map encStr := by
        exact flat_enc l
      rw [e]
      exact hrow
  obtain ⟨A, c, rfl, _⟩ := hro.form
  rw [List.length_map] at hro ⊢
  exact ⟨A, c, rfl, hro, ((Turn.refl nowhere w).alloc _).trans (Turn.of_below hb (by simp)) fun _ _ e => e⟩
set_option maxRecDepth 20000 in
set_option maxHeartbeats 4000000 in
theorem List_walk {w : World} {t mb : Nat} {m : Int} {es : List RtV} (h : Tb w t mb m es) :
    Calls Try.prog 21 #[.pointer (some ⟨t, 0, none⟩)] w fun e w' => ∃ A n c vs, e = .returned (.slice A n c) ∧ OwnR w' w.heap.size w.heap.size (.slice A n c) vs ∧ vs.map RtV.plain = es.map RtV.plain ∧ Turn nowhere w w' := by
  obtain ⟨n, hn⟩ : ∃ n, n = es.length := ⟨_, rfl⟩
  have HT := Lib.hid h
  have HN := Lib.hid hn
  have yn : (n : Int) ≤ 32 := by have := h.len; omega
  have HK := Lib.hid (keys_walk mb w)
  have hs := sorted_walk h.mp (by rw [kvs_len]; exact h.len)
  rw [kvs_len, ← hn] at hs
  have HS := Lib.hid hs
  clear h hn hs
  go_enter Try.func21, Try.ntmps21
  go_upto_region 0 with fail
  refine wp_region_lit ?_
  refine wpList_run (v := .slice none 0 0) (wanted_none rfl) (gx_assign rfl rfl) ?_
  simp only [Act.put, List.setIfInBounds_toArray, List.set_cons_zero, List.set_cons_succ]
  go_upto_region 1 with fail
  refine wp_region_lit ?_
  refine wpList_run (v := .slice none 0 0) (wanted_none rfl) (gx_assign rfl rfl) ?_
  simp only [Act.put, List.setIfInBounds_toArray, List.set_cons_zero, List.set_cons_succ]
  go_upto_region 2 with fail
  refine wp_region_lit ?_
  refine wpList_run (v := .pointer (some ⟨t, 0, none⟩)) (wanted_none rfl) (exec_move rfl rfl) ?_
  simp only [Act.put, List.setIfInBounds_toArray, List.set_cons_zero, List.set_cons_succ]
  refine wpList_run (v := .pointer (some ⟨t, 0, none⟩)) (wanted_none rfl) (exec_nil rfl rfl) ?_
  simp only [Act.put, List.setIfInBounds_toArray, List.set_cons_zero, List.set_cons_succ]
  refine wpList_run (v := .pointer (some ⟨t, 1, none⟩)) (wanted_none rfl) (exec_field (off := 0) (d := 1) rfl rfl (by kernel_rfl)) ?_
  simp only [Act.put, List.setIfInBounds_toArray, List.set_cons_zero, List.set_cons_succ]
  refine wpList_run (v := .map (some mb)) (wanted_none rfl) (exec_load1 rfl rfl (by kernel_rfl) (HT.out.blk.cell 1)) ?_
  simp only [Act.put, List.setIfInBounds_toArray, List.set_cons_zero, List.set_cons_succ]
  refine wpList_op rfl fun K9 HK9 => ?_
  go_wp2_with fail
  refine (HK.out).mono ?_
  rintro e w1 ⟨rfl, rfl⟩
  refine HK9.out _ _ ?_
  clear HK9
  try simp only [Act.put, List.setIfInBounds_toArray, List.set_cons_zero, List.set_cons_succ]
  refine wpList_op rfl fun K9 HK9 => ?_
  go_wp2_with fail
  refine (HS.out).mono ?_
  rintro e w2 ⟨A2, c2, rfl, how, ht⟩
  refine HK9.out _ _ ?_
  clear HK9
  try simp only [Act.put, List.setIfInBounds_toArray, List.set_cons_zero, List.set_cons_succ]
  have HKS := Lib.hid how
  have HT2 := Lib.hid ht
  clear how ht
  refine wpList_run (v := .int .i64 (n : Int)) (wanted_none rfl) (gx_len rfl rfl Try.underlying51) ?_
  simp only [Act.put, List.setIfInBounds_toArray, List.set_cons_zero, List.set_cons_succ]
  refine wpList_run (v := .int .i64 0) (wanted_none rfl) (exec_move rfl rfl) ?_
  simp only [Act.put, List.setIfInBounds_toArray, List.set_cons_zero, List.set_cons_succ]
  go_wp2_with fail
  go_loopg [3, 5, 13] n (fun gk lv pv iv wr => ∃ (i : Nat) (A : Option Addr) (c : Nat) (vs : List RtV), iv = .int .i64 (i : Int) ∧ i + gk = n ∧ lv = .slice A i c ∧ OwnR wr w2.heap.size w2.heap.size (.slice A i c) vs ∧ vs.map RtV.plain = (es.map RtV.plain).take i ∧ Turn nowhere w2 wr)
  case atStart => exact ⟨0, none, 0, [], rfl, by omega, rfl, ⟨Orw.nil _ _ _ _, fun r h => (by cases h)⟩, rfl, Turn.refl _ _⟩
  obtain ⟨i, A, c, vs, rfl, hgk, rfl, how, hpl, htr⟩ := hrel
  have HGK := Lib.hid hgk
  have HOW := Lib.hid how
  have HPL := Lib.hid hpl
  have HTR2 := Lib.hid htr
  have HTR := Lib.hid (HT2.out.trans htr fun _ _ e => e)
  have yi : (i : Int) ≤ (n : Int) := by omega
  clear hgk how hpl htr
  by_cases hlt : i < n
  · have HLT := Lib.hid hlt
    have y3 : (i : Int) < (n : Int) := by omega
    obtain ⟨z, hz⟩ := getQ (l := es) (i := i) (by have := HN.out; omega)
    have HZ := Lib.hid hz
    have HKW := Lib.hid (HKS.out.still HTR2.out)
    obtain ⟨b2, c3, e2, _, _⟩ := HKW.out.some_ (by rw [List.length_map, kvs_len, ← HN.out]; omega)
    rw [List.length_map, kvs_len, ← HN.out] at e2
    injection e2 with e2 e3 e4
    subst e2
    have hel := HKW.out.el0 (i := i) (r := [strV z.pre]) (by rw [List.getElem?_map]; unfold kvs; rw [List.getElem?_map, hz]; rfl)
    have HC := Lib.hid (show wr.cell? ⟨b2, 0 + i * 1, none⟩ = some (strV z.pre) from hel 0 _ rfl)
    have HTW := Lib.hid (HT.out.still HTR.out)
    have HZM := Lib.hid (List.mem_of_getElem? hz)
    have HZO := Lib.hid (HTW.out.its z HZM.out)
    have HLN := Lib.hid (show vs.length = i from by have h := congrArg List.length HPL.out; rw [List.length_map, List.length_take, List.length_map] at h; have := HN.out; omega)
    clear e3 e4 hz hlt hel
    have HIC := Lib.hid (iclone_walk HZO.out.1)
    go_upto_region 3 with fail
    refine wp_region_lit ?_
    refine wpList_run (v := .bool true) (wanted_none rfl) (ix_lss rfl rfl rfl (decide_eq_true y3)) ?_
    simp only [Act.put, List.setIfInBounds_toArray, List.set_cons_zero, List.set_cons_succ]
    go_upto_region 4 with fail
    refine wp_region_lit ?_
    refine wpList_run (v := .pointer (some ⟨b2, 0 + i * 1, none⟩)) (wanted_none rfl) (gx_iaddr (i := i) (sz := 1) rfl rfl rfl Try.underlying51 size_str HLT.out rfl) ?_
    simp only [Act.put, List.setIfInBounds_toArray, List.set_cons_zero, List.set_cons_succ]
    refine wpList_run (v := strV z.pre) (wanted_none rfl) (exec_load1 rfl rfl (by kernel_rfl) HC.out) ?_
    simp only [Act.put, List.setIfInBounds_toArray, List.set_cons_zero, List.set_cons_succ]
    refine wpList_run (v := strV z.pre) (wanted_none rfl) (gx_assign rfl rfl) ?_
    simp only [Act.put, List.setIfInBounds_toArray, List.set_cons_zero, List.set_cons_succ]
    go_upto_region 5 with fail
    refine wp_region_lit ?_
    refine wpList_run (v := .slice A i c) (wanted_none rfl) (exec_move rfl rfl) ?_
    simp only [Act.put, List.setIfInBounds_toArray, List.set_cons_zero, List.set_cons_succ]
    refine wpList_run (v := strV z.pre) (wanted_none rfl) (exec_move rfl rfl) ?_
    simp only [Act.put, List.setIfInBounds_toArray, List.set_cons_zero, List.set_cons_succ]
    refine wpList_run (v := .pointer (some ⟨t, 0, none⟩)) (wanted_none rfl) (exec_move rfl rfl) ?_
    simp only [Act.put, List.setIfInBounds_toArray, List.set_cons_zero, List.set_cons_succ]
    refine wpList_run (v := .pointer (some ⟨t, 0, none⟩)) (wanted_none rfl) (exec_nil rfl rfl) ?_
    simp only [Act.put, List.setIfInBounds_toArray, List.set_cons_zero, List.set_cons_succ]
    refine wpList_run (v := .pointer (some ⟨t, 1, none⟩)) (wanted_none rfl) (exec_field (off := 0) (d := 1) rfl rfl (by kernel_rfl)) ?_
    simp only [Act.put, List.setIfInBounds_toArray, List.set_cons_zero, List.set_cons_succ]
    refine wpList_run (v := .map (some mb)) (wanted_none rfl) (exec_load1 rfl rfl (by kernel_rfl) (HTW.out.blk.cell 1)) ?_
    simp only [Act.put, List.setIfInBounds_toArray, List.set_cons_zero, List.set_cons_succ]
    refine wpList_run (v := strV z.pre) (wanted_none rfl) (exec_move rfl rfl) ?_
    simp only [Act.put, List.setIfInBounds_toArray, List.set_cons_zero, List.set_cons_succ]
    refine wpList_run (v := z.val) (wanted_none rfl) (exec_lookup rfl rfl rfl (HTW.out.get HZM.out rfl)) ?_
    simp only [Act.put, List.setIfInBounds_toArray, List.set_cons_zero, List.set_cons_succ]
    refine wpList_op rfl fun K9 HK9 => ?_
    go_wp2_with fail
    refine (HIC.out).mono ?_
    rintro e w4 ⟨A4, c4, rfl, hiw, ht4, hok⟩
    refine HK9.out _ _ ?_
    clear HK9
    try simp only [Act.put, List.setIfInBounds_toArray, List.set_cons_zero, List.set_cons_succ]
    have hnv : (RtV.mk z.pre A4 z.n c4 z.to_).ok w4 ∧ Orw w4 w2.heap.size 3 1 (.slice A4 z.n c4) (z.to_.map one1) := ⟨hok, hiw.less HTR2.out.size⟩
    have HT4 := Lib.hid (HTR2.out.trans ht4 fun _ _ e => e)
    obtain ⟨A5, c5, w5, hrun, ho5, ht5⟩ := OwnR.add (w := w2) (W := w4) (HOW.out.still ht4) HT4.out HLN.out hnv (by have := HLT.out; omega)
    have HRUN := Lib.hid hrun
    have HO5 := Lib.hid ho5
    have HT5 := Lib.hid ht5
    have HB1 := Lib.hid (build_one elmRt (RtV.mk z.pre A4 z.n c4 z.to_).cells rfl (by decide) (.agg #[strV z.pre, .slice A4 z.n c4]) rfl w4)
    clear hiw ht4 hok hnv hrun ho5 ht5
    refine wpList_run (v := .agg #[strV z.pre, .slice A4 z.n c4]) (wanted_none rfl) (gx_build2 rfl rfl rfl (buildRt z.pre A4 z.n c4 _)) ?_
    simp only [Act.put, List.setIfInBounds_toArray, List.set_cons_zero, List.set_cons_succ]
    refine wpList_run (v := .slice (some ⟨w4.heap.size, 0, none⟩) 1 1) (w' := w4.alloc (.cells (RtV.mk z.pre A4 z.n c4 z.to_).cells.toArray 38)) (wanted_none rfl) (exec_buildSlice1 rfl rfl HB1.out) ?_
    simp only [Act.put, List.setIfInBounds_toArray, List.set_cons_zero, List.set_cons_succ]
    refine wpList_run (v := .slice A5 (i + 1) c5) (w' := w5) (wanted_none rfl) (exec_append rfl rfl rfl HRUN.out) ?_
    simp only [Act.put, List.setIfInBounds_toArray, List.set_cons_zero, List.set_cons_succ]
    refine wpList_run (v := .slice A5 (i + 1) c5) (wanted_none rfl) (gx_assign rfl rfl) ?_
    simp only [Act.put, List.setIfInBounds_toArray, List.set_cons_zero, List.set_cons_succ]
    go_upto_region 6 with fail
    refine wp_region_lit ?_
    refine wpList_run (v := .int .i64 ((i + 1 : Nat) : Int)) (wanted_none rfl) (ix_add rfl rfl rfl (by omega) (by omega)) ?_
    simp only [Act.put, List.setIfInBounds_toArray, List.set_cons_zero, List.set_cons_succ]
    refine wpList_run (v := .int .i64 ((i + 1 : Nat) : Int)) (wanted_none rfl) (exec_move rfl rfl) ?_
    simp only [Act.put, List.setIfInBounds_toArray, List.set_cons_zero, List.set_cons_succ]
    go_wp2_with fail
    go_roundg (n - (i + 1))
    case measure => have := HGK.out; have := HLT.out; omega
    case rel => exact ⟨i + 1, A5, c5, vs ++ [RtV.mk z.pre A4 z.n c4 z.to_], rfl, by have := HLT.out; omega, rfl, HO5.out, by
      rw [List.map_append, HPL.out, List.take_add_one, List.getElem?_map, HZ.out]
      rfl, HT5.out⟩
  · obtain rfl : n = i := by have := HGK.out; omega
    have HPF := Lib.hid (show vs.map RtV.plain = es.map RtV.plain from HPL.out.trans (List.take_of_length_le (by rw [List.length_map]; have := HN.out; omega)))
    clear hlt
    go_upto_region 3 with fail
    refine wp_region_lit ?_
    refine wpList_run (v := .bool false) (wanted_none rfl) (ix_lss rfl rfl rfl (decide_eq_false (by omega))) ?_
    simp only [Act.put, List.setIfInBounds_toArray, List.set_cons_zero, List.set_cons_succ]
    go_upto_region 7 with fail
    refine wp_region_lit ?_
    refine wpList_run (v := .slice A n c) (wanted_none rfl) (exec_move rfl rfl) ?_
    simp only [Act.put, List.setIfInBounds_toArray, List.set_cons_zero, List.set_cons_succ]
    refine wpList_run (v := .slice A n c) (wanted_none rfl) (gx_assign rfl rfl) ?_
    simp only [Act.put, List.setIfInBounds_toArray, List.set_cons_zero, List.set_cons_succ]
    go_wp2_with fail
    go_ret
    exact ⟨A, n, c, vs, rfl, ⟨HOW.out.row.less HT2.out.size, fun r hr => ⟨(HOW.out.its r hr).1, (HOW.out.its r hr).2.less HT2.out.size⟩⟩, HPF.out, HTR.out⟩
end Go.Proofs.Ytihmpbilbnajpaa
