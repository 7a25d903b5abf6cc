/-
  Index: a pair lent by a neighbour. No conditions.
-/
import Derived.Test.YtmlkdkbpbleilaaIxS
namespace Go.Proofs.Ytmlkdkbpbleilaa
open Go.RowKit
open Ix
set_option linter.unusedVariables false
set_option linter.unusedSimpArgs false
theorem rows_apart {w : World} {H : Hp} (h : In w H) {p q : Nat} {a b : Nd0} (hp : H p = some a) (hq : H q = some b) (hne : p ≠ q) {g : Nat} (h1 : a.vp.ownBlock = some g) : b.vp.ownBlock ≠ some g := fun h2 => hne (h.sepP hp hq h1 h2)
theorem krows_apart {w : World} {H : Hp} (h : In w H) {p q : Nat} {a b : Nd0} (hp : H p = some a) (hq : H q = some b) (hne : p ≠ q) {g : Nat} (h1 : a.vk.ownBlock = some g) : b.vk.ownBlock ≠ some g := fun h2 => hne (h.sepK hp hq h1 h2)
/-- a node's block behind a turn of some node's row of pairs; of kids -/
theorem In.blkP {w w1 : World} {H : Hp} (h : In w H) {p q : Nat} {a b : Nd0} (hp : H p = some a) (hq : H q = some b) (ht : Turn (fun g => a.vp.ownBlock = some g) w w1) : Blk w1 q 62 #[b.vp, b.vk] := (h.at_ hq).blk.turn ht fun e => (h.at_ hp).prs.ne (h.at_ hq).blk (by decide) _ e rfl
theorem In.blkK {w w1 : World} {H : Hp} (h : In w H) {p q : Nat} {a b : Nd0} (hp : H p = some a) (hq : H q = some b) (ht : Turn (fun g => a.vk.ownBlock = some g) w w1) : Blk w1 q 62 #[b.vp, b.vk] := (h.at_ hq).blk.turn ht fun e => (h.at_ hp).kds.ne (h.at_ hq).blk (by decide) _ e rfl
theorem build_oneP (p : Pr) (W : World) : (Instr.buildSlice 59 1 #[(0, .agg (encP p).toArray)]).run Try.prog W = .ok (.slice (some ⟨W.heap.size, 0, none⟩) 1 1) (W.alloc (.cells (encP p).toArray 65)) := build_one elmP (encP p) rfl (by decide) (.agg (encP p).toArray) rfl W
theorem build_oneK (k : Nat) (W : World) : (Instr.buildSlice 60 1 #[(0, .pointer (some ⟨k, 0, none⟩))]).run Try.prog W = .ok (.slice (some ⟨W.heap.size, 0, none⟩) 1 1) (W.alloc (.cells (encK k).toArray 56)) := build_one elmK (encK k) rfl (by decide) (.pointer (some ⟨k, 0, none⟩)) rfl W
theorem last_drop {α : Type} {l : List α} {n : Nat} (h : n = l.length) {i : Nat} (hi : i + 1 = n) : l.take i ++ l.drop (i + 1) = l.take i := by
  rw [List.drop_of_length_le (by omega), List.append_nil]
/-- an element of a row set, out of a store into the middle -/
theorem orw_mid {w w' : World} {b n c i : Nat} {ps : List Pr} {x : Pr} (h : Orw w 0 65 2 (.slice (some ⟨b, 0, none⟩) n c) (ps.map encP)) {cur cur' : Array Value} (hb : Blk w b 65 cur) (hb' : Blk w' b 65 cur') (hs : cur'.size = cur.size) (hi : i < n)
    (hc : ∀ j, cur'[j]? = if 0 + i * 2 ≤ j ∧ j < 0 + i * 2 + (encP x).toArray.size then (encP x).toArray[j - (0 + i * 2)]? else cur[j]?) : Orw w' 0 65 2 (.slice (some ⟨b, 0, none⟩) n c) ((ps.set i x).map encP) := by
  rw [List.map_set]
  refine orw_set h hb hb' hs hi rfl (encP_one x) (fun j => ?_) (by decide)
  have := hc j
  rw [Nat.zero_add, show (encP x).toArray.size = 2 from rfl] at this
  rw [this]
  split
  · simp
  · rfl
set_option maxRecDepth 20000 in
set_option maxHeartbeats 4000000 in
theorem lendL_walk {w : World} {H : Hp} {n l c i j : Nat} {ps lp cp : List Pr} {ks lk ck : List Nat} {p0 q0 : Pr} (hin : In w H) (hn : Is H n ps ks) (hl : Is H l lp lk) (hc : Is H c cp ck) (hij : i = j + 1) (hkl : ks[j]? = some l) (hkc : ks[i]? = some c) (hp : ps[j]? = some p0) (hq : lp[lp.length - 1]? = some q0)
    (hnl : n ≠ l) (hnc : n ≠ c) (hlc : l ≠ c) (b1 : ps.length < 1000) (b2 : lp.length < 1000) (b3 : cp.length < 1000) (b4 : ks.length < 1000) (b5 : lk.length < 1000) (b6 : ck.length < 1000) :
    Calls Try.prog 55 #[.pointer (some ⟨n, 0, none⟩), .int .i64 (i : Int)] w fun e w' => e = .returned (.tuple #[]) ∧ ∃ H', To w H w' H' ∧ Is H' n (ps.set j q0) ks ∧ Is H' l (lp.take (lp.length - 1)) (lk.take (lk.length - 1)) ∧
      Is H' c (p0 :: cp) ((lk[lk.length - 1]?).toList ++ ck) ∧ Same H H' (fun q => q = n ∨ q = l ∨ q = c) := by
  obtain ⟨vpn, vkn, hn⟩ := hn
  obtain ⟨vpl, vkl, hl⟩ := hl
  obtain ⟨vpc, vkc, hc⟩ := hc
  have HNL := Lib.hid hnl
  have HNC := Lib.hid hnc
  have HLC := Lib.hid hlc
  have HKL := Lib.hid hkl
  have HKC := Lib.hid hkc
  have HPJ := Lib.hid hp
  have HQ := Lib.hid hq
  have B1 := Lib.hid b1
  have B2 := Lib.hid b2
  have B3 := Lib.hid b3
  have B4 := Lib.hid b4
  have B5 := Lib.hid b5
  have B6 := Lib.hid b6
  have y1 : (i : Int) ≤ (j : Int) + 1 := by omega
  have y2 : (j : Int) + 1 ≤ (i : Int) := by omega
  have HIK := Lib.hid (show i < ks.length from (List.getElem?_eq_some_iff.1 hkc).1)
  have HJK := Lib.hid (show j < ks.length from (List.getElem?_eq_some_iff.1 hkl).1)
  have HJP := Lib.hid (show j < ps.length from (List.getElem?_eq_some_iff.1 hp).1)
  have HQ0 := Lib.hid (show lp.length - 1 < lp.length from (List.getElem?_eq_some_iff.1 hq).1)
  have y3 : (i : Int) ≤ 1000 := by have := HIK.out; omega
  have HIJ := Lib.hid hij
  clear hnl hnc hlc hkl hkc hp hq b1 b2 b3 b4 b5 b6 hij
  have HTO0 := Lib.hid (To.refl hin)
  have HI0 := Lib.hid hin
  have HS0 := Lib.hid (show Same H H (fun q => q = n ∨ q = l ∨ q = c) from fun q _ => rfl)
  have HP0_n := Lib.hid hn
  have HP0_l := Lib.hid hl
  have HP0_c := Lib.hid hc
  have HIN0 := Lib.hid hin
  clear hin hn hl hc
  obtain ⟨bP, cP, e9, hc9, _⟩ := (HI0.out.at_ HP0_n.out).prs.some_ (by rw [List.length_map]; show 0 < (ps).length; have := HJP.out; omega)
  obtain ⟨nP, hl9⟩ : ∃ q, q = (ps).length := ⟨_, rfl⟩
  rw [List.length_map] at hc9 e9
  replace e9 := e9.trans (show _ = Value.slice (some ⟨bP, 0, none⟩) nP cP from by rw [hl9])
  subst e9
  have HLP := Lib.hid hl9
  have HCP := Lib.hid (show nP ≤ cP from by rw [hl9]; exact hc9)
  clear hl9 hc9
  obtain ⟨bK, cK, e9, hc9, _⟩ := (HI0.out.at_ HP0_n.out).kds.some_ (by rw [List.length_map]; show 0 < (ks).length; have := HJK.out; omega)
  obtain ⟨nK, hl9⟩ : ∃ q, q = (ks).length := ⟨_, rfl⟩
  rw [List.length_map] at hc9 e9
  replace e9 := e9.trans (show _ = Value.slice (some ⟨bK, 0, none⟩) nK cK from by rw [hl9])
  subst e9
  have HLK := Lib.hid hl9
  have HCK := Lib.hid (show nK ≤ cK from by rw [hl9]; exact hc9)
  clear hl9 hc9
  obtain ⟨bL, cL, e9, hc9, _⟩ := (HI0.out.at_ HP0_l.out).prs.some_ (by rw [List.length_map]; show 0 < (lp).length; have := HQ0.out; omega)
  obtain ⟨nL, hl9⟩ : ∃ q, q = (lp).length := ⟨_, rfl⟩
  rw [List.length_map] at hc9 e9
  replace e9 := e9.trans (show _ = Value.slice (some ⟨bL, 0, none⟩) nL cL from by rw [hl9])
  subst e9
  have HLL := Lib.hid hl9
  have HCL := Lib.hid (show nL ≤ cL from by rw [hl9]; exact hc9)
  clear hl9 hc9
  obtain ⟨AC, cC, e9, hc9, _, hz9, _⟩ := (HI0.out.at_ HP0_c.out).prs.form
  obtain ⟨nC, hl9⟩ : ∃ q, q = (cp).length := ⟨_, rfl⟩
  rw [List.length_map] at hc9 e9
  replace e9 := e9.trans (show _ = Value.slice AC nC cC from by rw [hl9])
  subst e9
  have HLCc := Lib.hid hl9
  have HCC := Lib.hid (show nC ≤ cC from by rw [hl9]; exact hc9)
  have HZC := Lib.hid hz9
  clear hl9 hc9 hz9
  have HIn := Lib.hid (show i < nK from by rw [HLK.out]; exact HIK.out)
  have HJn := Lib.hid (show j < nK from by rw [HLK.out]; exact HJK.out)
  have HJp := Lib.hid (show j < nP from by rw [HLP.out]; exact HJP.out)
  obtain ⟨m, hm⟩ : ∃ m, m + 1 = nL := ⟨nL - 1, by have := HLL.out; have := HQ0.out; omega⟩
  have HM := Lib.hid hm
  have y4 : (nL : Int) ≤ (m : Int) + 1 := by omega
  have y5 : (m : Int) + 1 ≤ (nL : Int) := by omega
  have y6 : (nL : Int) ≤ 1000 := by have := HLL.out; have := B2.out; omega
  have HQM := Lib.hid (show lp[m]? = some q0 from by have h := HQ.out; rwa [← HLL.out, ← hm, Nat.add_sub_cancel] at h)
  clear hm
  go_enter Try.func55, Try.ntmps55
  go_upto_region 0 with fail
  refine wp_region_alw (fun W => Blk W n 62 #[.slice (some ⟨bP, 0, none⟩) nP cP, .slice (some ⟨bK, 0, none⟩) nK cK] ∧ W.cell? ⟨bK, 0 + j * 1, none⟩ = some (.pointer (some ⟨l, 0, none⟩)) ∧ W.cell? ⟨bK, 0 + i * 1, none⟩ = some (.pointer (some ⟨c, 0, none⟩))) (by kernel_rfl) ?_
  have HTd := Lib.hid ((Turn.refl nowhere w).drew)
  have hS0 : Blk w.drew n 62 #[.slice (some ⟨bP, 0, none⟩) nP cP, .slice (some ⟨bK, 0, none⟩) nK cK] ∧ w.drew.cell? ⟨bK, 0 + j * 1, none⟩ = some (.pointer (some ⟨l, 0, none⟩)) ∧ w.drew.cell? ⟨bK, 0 + i * 1, none⟩ = some (.pointer (some ⟨c, 0, none⟩)) := ⟨(HI0.out.at_ HP0_n.out).blk, kid_cell (HI0.out.at_ HP0_n.out) HKL.out, kid_cell (HI0.out.at_ HP0_n.out) HKC.out⟩
  refine alw_take (i := 0) (v := .pointer (some ⟨n, 0, none⟩)) rfl (by kernel_rfl) (by kernel_rfl) (fun _ _ _ h => h) (.inl ⟨by rfl, fun W hW => exec_move rfl rfl⟩) hS0 ?_
  simp only [Act.put, List.setIfInBounds_toArray, List.set_cons_zero, List.set_cons_succ]
  refine alw_take (i := 1) (v := .pointer (some ⟨n, 0, none⟩)) rfl (by kernel_rfl) (by kernel_rfl) (fun _ _ _ h => h) (.inl ⟨by rfl, fun W hW => exec_nil rfl rfl⟩) hS0 ?_
  simp only [Act.put, List.setIfInBounds_toArray, List.set_cons_zero, List.set_cons_succ]
  refine alw_take (i := 2) (v := .pointer (some ⟨n, 1, none⟩)) rfl (by kernel_rfl) (by kernel_rfl) (fun _ _ _ h => h) (.inl ⟨by rfl, fun W hW => exec_field (off := 0) (d := 1) rfl rfl (by kernel_rfl)⟩) hS0 ?_
  simp only [Act.put, List.setIfInBounds_toArray, List.set_cons_zero, List.set_cons_succ]
  refine alw_take (i := 3) (v := .slice (some ⟨bK, 0, none⟩) nK cK) rfl (by kernel_rfl) (by kernel_rfl) (fun _ _ _ h => h) (.inl ⟨by rfl, fun W hW => exec_load1 rfl rfl (by kernel_rfl) (hW.1.cell 1)⟩) hS0 ?_
  simp only [Act.put, List.setIfInBounds_toArray, List.set_cons_zero, List.set_cons_succ]
  refine alw_take (i := 4) (v := .int .i64 (i : Int)) rfl (by kernel_rfl) (by kernel_rfl) (fun _ _ _ h => h) (.inl ⟨by rfl, fun W hW => exec_move rfl rfl⟩) hS0 ?_
  simp only [Act.put, List.setIfInBounds_toArray, List.set_cons_zero, List.set_cons_succ]
  refine alw_take (i := 5) (v := .int .i64 (j : Int)) rfl (by kernel_rfl) (by kernel_rfl) (fun _ _ _ h => h) (.inl ⟨by rfl, fun W hW => ix_sub rfl rfl rfl (by omega) (by omega)⟩) hS0 ?_
  simp only [Act.put, List.setIfInBounds_toArray, List.set_cons_zero, List.set_cons_succ]
  refine alw_take (i := 6) (v := .pointer (some ⟨bK, 0 + j * 1, none⟩)) rfl (by kernel_rfl) (by kernel_rfl) (fun _ _ _ h => h) (.inl ⟨by rfl, fun W hW => gx_iaddr (i := j) (sz := 1) rfl rfl rfl Try.underlying60 size_ptr HJn.out rfl⟩) hS0 ?_
  simp only [Act.put, List.setIfInBounds_toArray, List.set_cons_zero, List.set_cons_succ]
  refine alw_take (i := 7) (v := .pointer (some ⟨l, 0, none⟩)) rfl (by kernel_rfl) (by kernel_rfl) (fun _ _ _ h => h) (.inl ⟨by rfl, fun W hW => exec_load1 rfl rfl (by kernel_rfl) hW.2.1⟩) hS0 ?_
  simp only [Act.put, List.setIfInBounds_toArray, List.set_cons_zero, List.set_cons_succ]
  refine alw_take (i := 8) (v := .pointer (some ⟨n, 0, none⟩)) rfl (by kernel_rfl) (by kernel_rfl) (fun _ _ _ h => h) (.inl ⟨by rfl, fun W hW => exec_move rfl rfl⟩) hS0 ?_
  simp only [Act.put, List.setIfInBounds_toArray, List.set_cons_zero, List.set_cons_succ]
  refine alw_take (i := 9) (v := .pointer (some ⟨n, 0, none⟩)) rfl (by kernel_rfl) (by kernel_rfl) (fun _ _ _ h => h) (.inl ⟨by rfl, fun W hW => exec_nil rfl rfl⟩) hS0 ?_
  simp only [Act.put, List.setIfInBounds_toArray, List.set_cons_zero, List.set_cons_succ]
  refine alw_take (i := 10) (v := .pointer (some ⟨n, 1, none⟩)) rfl (by kernel_rfl) (by kernel_rfl) (fun _ _ _ h => h) (.inl ⟨by rfl, fun W hW => exec_field (off := 0) (d := 1) rfl rfl (by kernel_rfl)⟩) hS0 ?_
  simp only [Act.put, List.setIfInBounds_toArray, List.set_cons_zero, List.set_cons_succ]
  refine alw_take (i := 11) (v := .slice (some ⟨bK, 0, none⟩) nK cK) rfl (by kernel_rfl) (by kernel_rfl) (fun _ _ _ h => h) (.inl ⟨by rfl, fun W hW => exec_load1 rfl rfl (by kernel_rfl) (hW.1.cell 1)⟩) hS0 ?_
  simp only [Act.put, List.setIfInBounds_toArray, List.set_cons_zero, List.set_cons_succ]
  refine alw_take (i := 12) (v := .int .i64 (i : Int)) rfl (by kernel_rfl) (by kernel_rfl) (fun _ _ _ h => h) (.inl ⟨by rfl, fun W hW => exec_move rfl rfl⟩) hS0 ?_
  simp only [Act.put, List.setIfInBounds_toArray, List.set_cons_zero, List.set_cons_succ]
  refine alw_take (i := 13) (v := .pointer (some ⟨bK, 0 + i * 1, none⟩)) rfl (by kernel_rfl) (by kernel_rfl) (fun _ _ _ h => h) (.inl ⟨by rfl, fun W hW => gx_iaddr (i := i) (sz := 1) rfl rfl rfl Try.underlying60 size_ptr HIn.out rfl⟩) hS0 ?_
  simp only [Act.put, List.setIfInBounds_toArray, List.set_cons_zero, List.set_cons_succ]
  refine alw_take (i := 14) (v := .pointer (some ⟨c, 0, none⟩)) rfl (by kernel_rfl) (by kernel_rfl) (fun _ _ _ h => h) (.inl ⟨by rfl, fun W hW => exec_load1 rfl rfl (by kernel_rfl) hW.2.2⟩) hS0 ?_
  simp only [Act.put, List.setIfInBounds_toArray, List.set_cons_zero, List.set_cons_succ]
  refine alw_take (i := 15) (v := .pointer (some ⟨l, 0, none⟩)) rfl (by kernel_rfl) (by kernel_rfl) (fun _ _ _ h => h) (.inl ⟨by rfl, fun W hW => gx_assign rfl rfl⟩) hS0 ?_
  simp only [Act.put, List.setIfInBounds_toArray, List.set_cons_zero, List.set_cons_succ]
  refine alw_take (i := 16) (v := .pointer (some ⟨c, 0, none⟩)) rfl (by kernel_rfl) (by kernel_rfl) (fun _ _ _ h => h) (.inl ⟨by rfl, fun W hW => gx_assign rfl rfl⟩) hS0 ?_
  simp only [Act.put, List.setIfInBounds_toArray, List.set_cons_zero, List.set_cons_succ]
  refine alw_done rfl ?_
  clear hS0
  refine NoPanic.normal ?_
  try simp only [Act.put, List.setIfInBounds_toArray, List.set_cons_zero, List.set_cons_succ]
  have HTO1 := Lib.hid (HTO0.out.trans (To.still HI0.out HTd.out))
  have HP1_n := HP0_n
  have HP1_l := HP0_l
  have HP1_c := HP0_c
  have HS1 := HS0
  have HI1 := Lib.hid HTO1.out.in_
  obtain ⟨w1, hw1⟩ : ∃ q, q = w.drew := ⟨_, rfl⟩
  rw [← hw1] at HTO1 HI1 ⊢
  clear hw1 HTd
  go_upto_region 1 with fail
  refine wp_region_till (fun W => Blk W c 62 #[.slice AC nC cC, vkc] ∧ Blk W n 62 #[.slice (some ⟨bP, 0, none⟩) nP cP, .slice (some ⟨bK, 0, none⟩) nK cK]) 15 (by kernel_rfl) ?_
  have HD := Lib.hid ((Turn.refl nowhere w1).drew)
  have hS0 : Blk w1.drew c 62 #[.slice AC nC cC, vkc] ∧ Blk w1.drew n 62 #[.slice (some ⟨bP, 0, none⟩) nP cP, .slice (some ⟨bK, 0, none⟩) nK cK] := ⟨(HI1.out.at_ HP1_c.out).blk, (HI1.out.at_ HP1_n.out).blk⟩
  refine till_take (i := 0) (v := .pointer (some ⟨c, 0, none⟩)) rfl (by kernel_rfl) (by kernel_rfl) (fun _ _ _ h => h) (.inl ⟨by rfl, fun W hW => exec_move rfl rfl⟩) hS0 ?_
  simp only [Act.put, List.setIfInBounds_toArray, List.set_cons_zero, List.set_cons_succ]
  refine till_take (i := 1) (v := .pointer (some ⟨c, 0, none⟩)) rfl (by kernel_rfl) (by kernel_rfl) (fun _ _ _ h => h) (.inl ⟨by rfl, fun W hW => exec_move rfl rfl⟩) hS0 ?_
  simp only [Act.put, List.setIfInBounds_toArray, List.set_cons_zero, List.set_cons_succ]
  refine till_take (i := 2) (v := .pointer (some ⟨c, 0, none⟩)) rfl (by kernel_rfl) (by kernel_rfl) (fun _ _ _ h => h) (.inl ⟨by rfl, fun W hW => exec_nil rfl rfl⟩) hS0 ?_
  simp only [Act.put, List.setIfInBounds_toArray, List.set_cons_zero, List.set_cons_succ]
  refine till_take (i := 3) (v := .pointer (some ⟨c, 0, none⟩)) rfl (by kernel_rfl) (by kernel_rfl) (fun _ _ _ h => h) (.inl ⟨by rfl, fun W hW => exec_field (off := 0) (d := 0) rfl rfl (by kernel_rfl)⟩) hS0 ?_
  simp only [Act.put, List.setIfInBounds_toArray, List.set_cons_zero, List.set_cons_succ]
  refine till_take (i := 4) (v := .slice AC nC cC) rfl (by kernel_rfl) (by kernel_rfl) (fun _ _ _ h => h) (.inl ⟨by rfl, fun W hW => exec_load1 rfl rfl (by kernel_rfl) (hW.1.cell 0)⟩) hS0 ?_
  simp only [Act.put, List.setIfInBounds_toArray, List.set_cons_zero, List.set_cons_succ]
  refine till_take (i := 5) (v := .pointer (some ⟨n, 0, none⟩)) rfl (by kernel_rfl) (by kernel_rfl) (fun _ _ _ h => h) (.inl ⟨by rfl, fun W hW => exec_move rfl rfl⟩) hS0 ?_
  simp only [Act.put, List.setIfInBounds_toArray, List.set_cons_zero, List.set_cons_succ]
  refine till_take (i := 6) (v := .pointer (some ⟨n, 0, none⟩)) rfl (by kernel_rfl) (by kernel_rfl) (fun _ _ _ h => h) (.inl ⟨by rfl, fun W hW => exec_nil rfl rfl⟩) hS0 ?_
  simp only [Act.put, List.setIfInBounds_toArray, List.set_cons_zero, List.set_cons_succ]
  refine till_take (i := 7) (v := .pointer (some ⟨n, 0, none⟩)) rfl (by kernel_rfl) (by kernel_rfl) (fun _ _ _ h => h) (.inl ⟨by rfl, fun W hW => exec_field (off := 0) (d := 0) rfl rfl (by kernel_rfl)⟩) hS0 ?_
  simp only [Act.put, List.setIfInBounds_toArray, List.set_cons_zero, List.set_cons_succ]
  refine till_take (i := 8) (v := .slice (some ⟨bP, 0, none⟩) nP cP) rfl (by kernel_rfl) (by kernel_rfl) (fun _ _ _ h => h) (.inl ⟨by rfl, fun W hW => exec_load1 rfl rfl (by kernel_rfl) (hW.2.cell 0)⟩) hS0 ?_
  simp only [Act.put, List.setIfInBounds_toArray, List.set_cons_zero, List.set_cons_succ]
  refine till_take (i := 9) (v := .int .i64 (i : Int)) rfl (by kernel_rfl) (by kernel_rfl) (fun _ _ _ h => h) (.inl ⟨by rfl, fun W hW => exec_move rfl rfl⟩) hS0 ?_
  simp only [Act.put, List.setIfInBounds_toArray, List.set_cons_zero, List.set_cons_succ]
  refine till_take (i := 10) (v := .int .i64 (j : Int)) rfl (by kernel_rfl) (by kernel_rfl) (fun _ _ _ h => h) (.inl ⟨by rfl, fun W hW => ix_sub rfl rfl rfl (by omega) (by omega)⟩) hS0 ?_
  simp only [Act.put, List.setIfInBounds_toArray, List.set_cons_zero, List.set_cons_succ]
  refine till_take (i := 11) (v := .pointer (some ⟨bP, 0 + j * 2, none⟩)) rfl (by kernel_rfl) (by kernel_rfl) (fun _ _ _ h => h) (.inl ⟨by rfl, fun W hW => gx_iaddr (i := j) (sz := 2) rfl rfl rfl Try.underlying59 size_pair HJp.out rfl⟩) hS0 ?_
  simp only [Act.put, List.setIfInBounds_toArray, List.set_cons_zero, List.set_cons_succ]
  refine till_step (i := 12) (by kernel_rfl) rfl rfl ?_
  intro K1 HK1
  refine wp_run (v := .agg (encP p0).toArray) (gx_loads rfl rfl (((HI1.out.still HD.out).at_ HP1_n.out).prs.el0 (by rw [List.getElem?_map, HPJ.out]; rfl)) Try.underlying65 rfl (by rw [size_pair]; rfl)) ?_
  refine HK1.out _ _ ⟨fun _ => hS0, ?_⟩
  clear HK1
  simp only [Act.put, List.setIfInBounds_toArray, List.set_cons_zero, List.set_cons_succ]
  have hb2 := Blk.new w1.drew 65 (encP p0).toArray
  have ht2 := (Turn.refl nowhere w1.drew).alloc (.cells (encP p0).toArray 65)
  obtain ⟨g2, hg2⟩ : ∃ q, q = w1.drew.heap.size := ⟨_, rfl⟩
  have hS1 : Blk (w1.drew.alloc (.cells (encP p0).toArray 65)) c 62 #[.slice AC nC cC, vkc] ∧ Blk (w1.drew.alloc (.cells (encP p0).toArray 65)) n 62 #[.slice (some ⟨bP, 0, none⟩) nP cP, .slice (some ⟨bK, 0, none⟩) nK cK] := ⟨hS0.1.alloc _, hS0.2.alloc _⟩
  have hbld := build_oneP p0 w1.drew
  rw [← hg2] at hb2 hbld
  generalize w1.drew.alloc (.cells (encP p0).toArray 65) = w2 at *
  refine till_step (i := 13) (by kernel_rfl) rfl rfl ?_
  intro K1 HK1
  refine wp_run (v := .slice (some ⟨g2, 0, none⟩) 1 1) (w' := w2) (exec_buildSlice1 rfl rfl hbld) ?_
  refine HK1.out _ _ ⟨fun _ => hS1, ?_⟩
  clear HK1
  simp only [Act.put, List.setIfInBounds_toArray, List.set_cons_zero, List.set_cons_succ]
  have HBG := Lib.hid hb2
  have HT12 := Lib.hid (HD.out.trans ht2 fun _ _ e => e)
  have HG2 := Lib.hid (show w1.heap.size ≤ g2 from by rw [hg2]; exact Nat.le_refl _)
  have HI12 := Lib.hid (HI1.out.still HT12.out)
  have HGN := Lib.hid (show (Value.slice AC nC cC).ownBlock ≠ some g2 from fun e => by have := (HI1.out.at_ HP1_c.out).prs.lt e; have := HG2.out; omega)
  clear hb2 ht2 hbld hg2
  refine till_step (i := 14) (by kernel_rfl) rfl rfl ?_
  intro K1 HK1
  go_wp2_with fail
  refine (InsertP (i := 0) (HI12.out.at_ HP1_c.out).prs (by rw [List.length_map]; exact HLCc.out.symm) (Nat.zero_le _) HBG.out rfl (encP_one p0) HGN.out (by have := HLCc.out; have := B3.out; omega)).mono ?_
  rintro e w3 ⟨v', rfl, hrow, hto⟩
  have hS3 : Blk w3 c 62 #[.slice AC nC cC, vkc] ∧ Blk w3 n 62 #[.slice (some ⟨bP, 0, none⟩) nP cP, .slice (some ⟨bK, 0, none⟩) nK cK] := ⟨HI12.out.blkP HP1_c.out HP1_c.out hto.1, HI12.out.blkP HP1_c.out HP1_n.out hto.1⟩
  refine HK1.out _ _ ⟨fun _ => hS3, ?_⟩
  clear HK1
  try simp only [Act.put, List.setIfInBounds_toArray, List.set_cons_zero, List.set_cons_succ]
  refine till_tail 15 rfl (by kernel_rfl) ?_
  refine wpList_run (v := .pointer (some ⟨c, 0, none⟩)) rfl (exec_nil rfl rfl) ?_
  simp only [Act.put, List.setIfInBounds_toArray, List.set_cons_zero, List.set_cons_succ]
  refine wpList_run (v := .pointer (some ⟨c, 0, none⟩)) rfl (exec_field (off := 0) (d := 0) rfl rfl (by kernel_rfl)) ?_
  simp only [Act.put, List.setIfInBounds_toArray, List.set_cons_zero, List.set_cons_succ]
  refine wpList_storeU 0 v' rfl 59 _ _ rfl hS3.1 rfl rfl (by show 0 < 2; omega) (slice_one hrow) size_sP ?_
  intro w4 hb4 ht4
  have h24 := HI12.out.setP (ps' := p0 :: cp) HP1_c.out hto.1 hto.2 ht4 hb4 (by
    have h := hrow
    rw [ins_map] at h
    exact h)
  have HX4 := Lib.hid (To.trans (To.still HI1.out HT12.out) h24)
  clear hrow hto hb4 ht4 h24 hS3 hS1 hS0 HBG HGN
  refine wpList_nil ?_
  refine NoPanic.normal ?_
  simp only [Act.put, List.setIfInBounds_toArray, List.set_cons_zero, List.set_cons_succ]
  have HT2 := Lib.hid (HX4.out)
  obtain ⟨H2, hH2⟩ : ∃ q, q = up H c ⟨(p0 :: cp), ck, v', vkc⟩ := ⟨_, rfl⟩
  have HP2_n := Lib.hid (show H2 n = some ⟨ps, ks, .slice (some ⟨bP, 0, none⟩) nP cP, .slice (some ⟨bK, 0, none⟩) nK cK⟩ from by rw [hH2, up_other _ _ _ HNC.out]; exact HP1_n.out)
  have HP2_l := Lib.hid (show H2 l = some ⟨lp, lk, .slice (some ⟨bL, 0, none⟩) nL cL, vkl⟩ from by rw [hH2, up_other _ _ _ HLC.out]; exact HP1_l.out)
  have HP2_c := Lib.hid (show H2 c = some ⟨(p0 :: cp), ck, v', vkc⟩ from by rw [hH2]; exact up_same _ _ _)
  have HS2 := Lib.hid (show Same H H2 (fun q => q = n ∨ q = l ∨ q = c) from by rw [hH2]; exact HS1.out.trans (same_up _ _ _) (fun _ e => e) fun _ e => .inr (.inr e))
  rw [← hH2] at HT2
  have HTO2 := Lib.hid (HTO1.out.trans HT2.out)
  have HI2 := Lib.hid HTO2.out.in_
  clear hH2
  clear HX4 HT12 HI12 HD HG2
  go_upto_region 2 with fail
  refine wp_region_till (fun W => Blk W n 62 #[.slice (some ⟨bP, 0, none⟩) nP cP, .slice (some ⟨bK, 0, none⟩) nK cK]) 14 (by kernel_rfl) ?_
  have HD := Lib.hid ((Turn.refl nowhere w4).drew)
  have HI4d := Lib.hid (HI2.out.still HD.out)
  have hS0 : Blk w4.drew n 62 #[.slice (some ⟨bP, 0, none⟩) nP cP, .slice (some ⟨bK, 0, none⟩) nK cK] := (HI2.out.at_ HP2_n.out).blk
  refine till_take (i := 0) (v := .pointer (some ⟨n, 0, none⟩)) rfl (by kernel_rfl) (by kernel_rfl) (fun _ _ _ h => h) (.inl ⟨by rfl, fun W hW => exec_move rfl rfl⟩) hS0 ?_
  simp only [Act.put, List.setIfInBounds_toArray, List.set_cons_zero, List.set_cons_succ]
  refine till_take (i := 1) (v := .pointer (some ⟨n, 0, none⟩)) rfl (by kernel_rfl) (by kernel_rfl) (fun _ _ _ h => h) (.inl ⟨by rfl, fun W hW => exec_nil rfl rfl⟩) hS0 ?_
  simp only [Act.put, List.setIfInBounds_toArray, List.set_cons_zero, List.set_cons_succ]
  refine till_take (i := 2) (v := .pointer (some ⟨n, 0, none⟩)) rfl (by kernel_rfl) (by kernel_rfl) (fun _ _ _ h => h) (.inl ⟨by rfl, fun W hW => exec_field (off := 0) (d := 0) rfl rfl (by kernel_rfl)⟩) hS0 ?_
  simp only [Act.put, List.setIfInBounds_toArray, List.set_cons_zero, List.set_cons_succ]
  refine till_take (i := 3) (v := .slice (some ⟨bP, 0, none⟩) nP cP) rfl (by kernel_rfl) (by kernel_rfl) (fun _ _ _ h => h) (.inl ⟨by rfl, fun W hW => exec_load1 rfl rfl (by kernel_rfl) (hW.cell 0)⟩) hS0 ?_
  simp only [Act.put, List.setIfInBounds_toArray, List.set_cons_zero, List.set_cons_succ]
  refine till_take (i := 4) (v := .int .i64 (i : Int)) rfl (by kernel_rfl) (by kernel_rfl) (fun _ _ _ h => h) (.inl ⟨by rfl, fun W hW => exec_move rfl rfl⟩) hS0 ?_
  simp only [Act.put, List.setIfInBounds_toArray, List.set_cons_zero, List.set_cons_succ]
  refine till_take (i := 5) (v := .int .i64 (j : Int)) rfl (by kernel_rfl) (by kernel_rfl) (fun _ _ _ h => h) (.inl ⟨by rfl, fun W hW => ix_sub rfl rfl rfl (by omega) (by omega)⟩) hS0 ?_
  simp only [Act.put, List.setIfInBounds_toArray, List.set_cons_zero, List.set_cons_succ]
  refine till_take (i := 6) (v := .pointer (some ⟨l, 0, none⟩)) rfl (by kernel_rfl) (by kernel_rfl) (fun _ _ _ h => h) (.inl ⟨by rfl, fun W hW => exec_move rfl rfl⟩) hS0 ?_
  simp only [Act.put, List.setIfInBounds_toArray, List.set_cons_zero, List.set_cons_succ]
  refine till_take (i := 7) (v := .pointer (some ⟨l, 0, none⟩)) rfl (by kernel_rfl) (by kernel_rfl) (fun _ _ _ h => h) (.inl ⟨by rfl, fun W hW => exec_move rfl rfl⟩) hS0 ?_
  simp only [Act.put, List.setIfInBounds_toArray, List.set_cons_zero, List.set_cons_succ]
  refine till_take (i := 8) (v := .pointer (some ⟨l, 0, none⟩)) rfl (by kernel_rfl) (by kernel_rfl) (fun _ _ _ h => h) (.inl ⟨by rfl, fun W hW => exec_nil rfl rfl⟩) hS0 ?_
  simp only [Act.put, List.setIfInBounds_toArray, List.set_cons_zero, List.set_cons_succ]
  refine till_take (i := 9) (v := .pointer (some ⟨l, 0, none⟩)) rfl (by kernel_rfl) (by kernel_rfl) (fun _ _ _ h => h) (.inl ⟨by rfl, fun W hW => exec_field (off := 0) (d := 0) rfl rfl (by kernel_rfl)⟩) hS0 ?_
  simp only [Act.put, List.setIfInBounds_toArray, List.set_cons_zero, List.set_cons_succ]
  refine till_step (i := 10) (by kernel_rfl) rfl rfl ?_
  intro K1 HK1
  refine wp_run (v := .slice (some ⟨bL, 0, none⟩) nL cL) (exec_load1 rfl rfl (by kernel_rfl) ((HI4d.out.at_ HP2_l.out).blk.cell 0)) ?_
  refine HK1.out _ _ ⟨fun _ => hS0, ?_⟩
  clear HK1
  simp only [Act.put, List.setIfInBounds_toArray, List.set_cons_zero, List.set_cons_succ]
  refine till_take (i := 11) (v := .int .i64 (nL : Int)) rfl (by kernel_rfl) (by kernel_rfl) (fun _ _ _ h => h) (.inl ⟨by rfl, fun W hW => gx_len rfl rfl Try.underlying59⟩) hS0 ?_
  simp only [Act.put, List.setIfInBounds_toArray, List.set_cons_zero, List.set_cons_succ]
  refine till_take (i := 12) (v := .int .i64 (m : Int)) rfl (by kernel_rfl) (by kernel_rfl) (fun _ _ _ h => h) (.inl ⟨by rfl, fun W hW => ix_sub rfl rfl rfl (by omega) (by omega)⟩) hS0 ?_
  simp only [Act.put, List.setIfInBounds_toArray, List.set_cons_zero, List.set_cons_succ]
  refine till_step (i := 13) (by kernel_rfl) rfl rfl ?_
  intro K1 HK1
  go_wp2_with fail
  refine (takePair_walk HI4d.out ⟨_, _, HP2_l.out⟩ HQM.out (by have := B2.out; omega)).mono ?_
  rintro e w5 ⟨rfl, H3, hto, his, hsame⟩
  have hn5 := (hsame n HNL.out).trans HP2_n.out
  have hS5 : Blk w5 n 62 #[.slice (some ⟨bP, 0, none⟩) nP cP, .slice (some ⟨bK, 0, none⟩) nK cK] := (hto.in_.at_ hn5).blk
  refine HK1.out _ _ ⟨fun _ => hS5, ?_⟩
  clear HK1
  try simp only [Act.put, List.setIfInBounds_toArray, List.set_cons_zero, List.set_cons_succ]
  clear hn5
  have hto5 := To.trans (To.still HI2.out HD.out) hto
  rw [last_drop HLL.out HM.out] at his
  obtain ⟨vp3, vk3, hp3⟩ := his
  have HP3_l := Lib.hid hp3
  clear hp3
  have HP3_n := Lib.hid ((hsame n HNL.out).trans HP2_n.out)
  have HP3_c := Lib.hid ((hsame c (Ne.symm HLC.out)).trans HP2_c.out)
  have HS3 := Lib.hid (HS2.out.trans hsame (fun _ e => e) fun _ e => .inr (.inl e))
  have HTO3 := Lib.hid (HTO2.out.trans hto5)
  have HI3 := Lib.hid HTO3.out.in_
  clear hto5 hto hsame
  refine till_tail 14 rfl (by kernel_rfl) ?_
  refine wpList_run (v := .pointer (some ⟨bP, 0 + j * 2, none⟩)) rfl (gx_iaddr (i := j) (sz := 2) rfl rfl rfl Try.underlying59 size_pair HJp.out rfl) ?_
  simp only [Act.put, List.setIfInBounds_toArray, List.set_cons_zero, List.set_cons_succ]
  obtain ⟨cur, hcur, hcs, _, _, hnc, _, _⟩ := orw_block (HI3.out.at_ HP3_n.out).prs
  refine wpList_store_mid rfl 65 _ _ rfl (g := bP) (off := 0 + j * 2) (t := 65) (encP q0).toArray hcur rfl rfl (by rw [hcs]; show 0 + j * 2 + 2 ≤ cP * 2; have := HJp.out; omega) (by rw [size_pair]; rfl) (fun v hv => encP_one q0 v (by simpa using hv)) ?_
  intro w6 C6 hb6 hs6 hc6 ht6
  have hrow6 := orw_mid (HI3.out.at_ HP3_n.out).prs hcur hb6 hs6 HJp.out hc6
  have ht6' : Turn (fun b => (.slice (some ⟨bP, 0, none⟩) nP cP : Value).ownBlock = some b) w5 w6 := ht6.mono fun k _ e => by
    have e : k = bP := e
    rw [e]; rfl
  have HX6 := Lib.hid (HI3.out.setP (ps' := ps.set j q0) HP3_n.out ht6' (fun b hb => .inl hb) (Turn.refl _ _) (HI3.out.blkP HP3_n.out HP3_n.out ht6') hrow6)
  clear hcur hcs hnc hb6 hs6 hc6 ht6 hrow6 ht6' hS5 hS0
  refine wpList_nil ?_
  refine NoPanic.normal ?_
  simp only [Act.put, List.setIfInBounds_toArray, List.set_cons_zero, List.set_cons_succ]
  have HT4 := Lib.hid (HX6.out)
  obtain ⟨H4, hH4⟩ : ∃ q, q = up H3 n ⟨(ps.set j q0), ks, .slice (some ⟨bP, 0, none⟩) nP cP, .slice (some ⟨bK, 0, none⟩) nK cK⟩ := ⟨_, rfl⟩
  have HP4_n := Lib.hid (show H4 n = some ⟨(ps.set j q0), ks, .slice (some ⟨bP, 0, none⟩) nP cP, .slice (some ⟨bK, 0, none⟩) nK cK⟩ from by rw [hH4]; exact up_same _ _ _)
  have HP4_l := Lib.hid (show H4 l = some ⟨(lp.take m), lk, vp3, vk3⟩ from by rw [hH4, up_other _ _ _ (Ne.symm HNL.out)]; exact HP3_l.out)
  have HP4_c := Lib.hid (show H4 c = some ⟨(p0 :: cp), ck, v', vkc⟩ from by rw [hH4, up_other _ _ _ (Ne.symm HNC.out)]; exact HP3_c.out)
  have HS4 := Lib.hid (show Same H H4 (fun q => q = n ∨ q = l ∨ q = c) from by rw [hH4]; exact HS3.out.trans (same_up _ _ _) (fun _ e => e) fun _ e => .inl e)
  rw [← hH4] at HT4
  have HTO4 := Lib.hid (HTO3.out.trans HT4.out)
  have HI4 := Lib.hid HTO4.out.in_
  clear hH4
  clear HX6 HI4d HD
  have HN_l := Lib.hid (show NodeAt w6 l vp3 vk3 (lp.take m) lk from (HI4.out.at_ HP4_l.out))
  have hw := lowest_walk HN_l.out
  by_cases hks : lk = []
  · subst hks
    rw [show decide (([] : List Nat) = []) = true from rfl] at hw
    have HW := Lib.hid hw
    clear hw
    go_upto_region 3 with fail
    refine wp_region_lit ?_
    refine wpList_run (v := .pointer (some ⟨l, 0, none⟩)) rfl (exec_move rfl rfl) ?_
    simp only [Act.put, List.setIfInBounds_toArray, List.set_cons_zero, List.set_cons_succ]
    refine wpList_op rfl fun K9 HK9 => ?_
    go_wp2_with fail
    refine (HW.out).mono ?_
    rintro e w7 ⟨rfl, rfl⟩
    refine HK9.out _ _ ?_
    clear HK9
    try simp only [Act.put, List.setIfInBounds_toArray, List.set_cons_zero, List.set_cons_succ]
    refine wpList_run (v := .bool false) rfl (ix_not (b := true) rfl rfl) ?_
    simp only [Act.put, List.setIfInBounds_toArray, List.set_cons_zero, List.set_cons_succ]
    go_wp2_with fail
    go_end0
    exact ⟨rfl, H4, HTO4.out, ⟨_, _, HP4_n.out⟩, by rw [show lp.length - 1 = m from by have := HLL.out; have := HM.out; omega]; exact ⟨_, _, HP4_l.out⟩, ⟨_, _, HP4_c.out⟩, HS4.out⟩
  · rw [show decide (lk = []) = false from decide_eq_false hks] at hw
    have HW := Lib.hid hw
    have HK0 := Lib.hid (show 0 < lk.length from List.length_pos_iff.2 hks)
    clear hw hks HN_l
    go_upto_region 3 with fail
    refine wp_region_lit ?_
    refine wpList_run (v := .pointer (some ⟨l, 0, none⟩)) rfl (exec_move rfl rfl) ?_
    simp only [Act.put, List.setIfInBounds_toArray, List.set_cons_zero, List.set_cons_succ]
    refine wpList_op rfl fun K9 HK9 => ?_
    go_wp2_with fail
    refine (HW.out).mono ?_
    rintro e w7 ⟨rfl, rfl⟩
    refine HK9.out _ _ ?_
    clear HK9
    try simp only [Act.put, List.setIfInBounds_toArray, List.set_cons_zero, List.set_cons_succ]
    clear HW
    refine wpList_run (v := .bool true) rfl (ix_not (b := false) rfl rfl) ?_
    simp only [Act.put, List.setIfInBounds_toArray, List.set_cons_zero, List.set_cons_succ]
    obtain ⟨bQ, cQ, e9, hc9, _⟩ := (HI4.out.at_ HP4_l.out).kds.some_ (by rw [List.length_map]; show 0 < (lk).length; have := HK0.out; omega)
    obtain ⟨nQ, hl9⟩ : ∃ q, q = (lk).length := ⟨_, rfl⟩
    rw [List.length_map] at hc9 e9
    replace e9 := e9.trans (show _ = Value.slice (some ⟨bQ, 0, none⟩) nQ cQ from by rw [hl9])
    subst e9
    have HLQ := Lib.hid hl9
    have HCQ := Lib.hid (show nQ ≤ cQ from by rw [hl9]; exact hc9)
    clear hl9 hc9
    obtain ⟨AD, cD, e9, hc9, _, hz9, _⟩ := (HI4.out.at_ HP4_c.out).kds.form
    obtain ⟨nD, hl9⟩ : ∃ q, q = (ck).length := ⟨_, rfl⟩
    rw [List.length_map] at hc9 e9
    replace e9 := e9.trans (show _ = Value.slice AD nD cD from by rw [hl9])
    subst e9
    have HLD := Lib.hid hl9
    have HCD := Lib.hid (show nD ≤ cD from by rw [hl9]; exact hc9)
    have HZD := Lib.hid hz9
    clear hl9 hc9 hz9
    obtain ⟨z, hz⟩ : ∃ z, z + 1 = nQ := ⟨nQ - 1, by have := HLQ.out; have := HK0.out; omega⟩
    have HZ := Lib.hid hz
    have y7 : (nQ : Int) ≤ (z : Int) + 1 := by omega
    have y8 : (z : Int) + 1 ≤ (nQ : Int) := by omega
    have y9 : (nQ : Int) ≤ 1000 := by have := HLQ.out; have := B5.out; omega
    obtain ⟨x, hx⟩ : ∃ x, lk[z]? = some x := ⟨_, List.getElem?_eq_getElem (show z < lk.length from by rw [← HLQ.out]; omega)⟩
    have HX := Lib.hid hx
    clear hz hx
    go_upto_region 4 with fail
    refine wp_region_till (fun W => Blk W c 62 #[v', .slice AD nD cD]) 15 (by kernel_rfl) ?_
    have HD := Lib.hid ((Turn.refl nowhere w7).drew)
    have HI7d := Lib.hid (HI4.out.still HD.out)
    have hS0 : Blk w7.drew c 62 #[v', .slice AD nD cD] := (HI4.out.at_ HP4_c.out).blk
    refine till_take (i := 0) (v := .pointer (some ⟨c, 0, none⟩)) rfl (by kernel_rfl) (by kernel_rfl) (fun _ _ _ h => h) (.inl ⟨by rfl, fun W hW => exec_move rfl rfl⟩) hS0 ?_
    simp only [Act.put, List.setIfInBounds_toArray, List.set_cons_zero, List.set_cons_succ]
    refine till_take (i := 1) (v := .pointer (some ⟨c, 0, none⟩)) rfl (by kernel_rfl) (by kernel_rfl) (fun _ _ _ h => h) (.inl ⟨by rfl, fun W hW => exec_move rfl rfl⟩) hS0 ?_
    simp only [Act.put, List.setIfInBounds_toArray, List.set_cons_zero, List.set_cons_succ]
    refine till_take (i := 2) (v := .pointer (some ⟨c, 0, none⟩)) rfl (by kernel_rfl) (by kernel_rfl) (fun _ _ _ h => h) (.inl ⟨by rfl, fun W hW => exec_nil rfl rfl⟩) hS0 ?_
    simp only [Act.put, List.setIfInBounds_toArray, List.set_cons_zero, List.set_cons_succ]
    refine till_take (i := 3) (v := .pointer (some ⟨c, 1, none⟩)) rfl (by kernel_rfl) (by kernel_rfl) (fun _ _ _ h => h) (.inl ⟨by rfl, fun W hW => exec_field (off := 0) (d := 1) rfl rfl (by kernel_rfl)⟩) hS0 ?_
    simp only [Act.put, List.setIfInBounds_toArray, List.set_cons_zero, List.set_cons_succ]
    refine till_take (i := 4) (v := .slice AD nD cD) rfl (by kernel_rfl) (by kernel_rfl) (fun _ _ _ h => h) (.inl ⟨by rfl, fun W hW => exec_load1 rfl rfl (by kernel_rfl) (hW.cell 1)⟩) hS0 ?_
    simp only [Act.put, List.setIfInBounds_toArray, List.set_cons_zero, List.set_cons_succ]
    refine till_take (i := 5) (v := .pointer (some ⟨l, 0, none⟩)) rfl (by kernel_rfl) (by kernel_rfl) (fun _ _ _ h => h) (.inl ⟨by rfl, fun W hW => exec_move rfl rfl⟩) hS0 ?_
    simp only [Act.put, List.setIfInBounds_toArray, List.set_cons_zero, List.set_cons_succ]
    refine till_take (i := 6) (v := .pointer (some ⟨l, 0, none⟩)) rfl (by kernel_rfl) (by kernel_rfl) (fun _ _ _ h => h) (.inl ⟨by rfl, fun W hW => exec_move rfl rfl⟩) hS0 ?_
    simp only [Act.put, List.setIfInBounds_toArray, List.set_cons_zero, List.set_cons_succ]
    refine till_take (i := 7) (v := .pointer (some ⟨l, 0, none⟩)) rfl (by kernel_rfl) (by kernel_rfl) (fun _ _ _ h => h) (.inl ⟨by rfl, fun W hW => exec_nil rfl rfl⟩) hS0 ?_
    simp only [Act.put, List.setIfInBounds_toArray, List.set_cons_zero, List.set_cons_succ]
    refine till_take (i := 8) (v := .pointer (some ⟨l, 1, none⟩)) rfl (by kernel_rfl) (by kernel_rfl) (fun _ _ _ h => h) (.inl ⟨by rfl, fun W hW => exec_field (off := 0) (d := 1) rfl rfl (by kernel_rfl)⟩) hS0 ?_
    simp only [Act.put, List.setIfInBounds_toArray, List.set_cons_zero, List.set_cons_succ]
    refine till_step (i := 9) (by kernel_rfl) rfl rfl ?_
    intro K1 HK1
    refine wp_run (v := .slice (some ⟨bQ, 0, none⟩) nQ cQ) (exec_load1 rfl rfl (by kernel_rfl) ((HI7d.out.at_ HP4_l.out).blk.cell 1)) ?_
    refine HK1.out _ _ ⟨fun _ => hS0, ?_⟩
    clear HK1
    simp only [Act.put, List.setIfInBounds_toArray, List.set_cons_zero, List.set_cons_succ]
    refine till_take (i := 10) (v := .int .i64 (nQ : Int)) rfl (by kernel_rfl) (by kernel_rfl) (fun _ _ _ h => h) (.inl ⟨by rfl, fun W hW => gx_len rfl rfl Try.underlying60⟩) hS0 ?_
    simp only [Act.put, List.setIfInBounds_toArray, List.set_cons_zero, List.set_cons_succ]
    refine till_take (i := 11) (v := .int .i64 (z : Int)) rfl (by kernel_rfl) (by kernel_rfl) (fun _ _ _ h => h) (.inl ⟨by rfl, fun W hW => ix_sub rfl rfl rfl (by omega) (by omega)⟩) hS0 ?_
    simp only [Act.put, List.setIfInBounds_toArray, List.set_cons_zero, List.set_cons_succ]
    refine till_step (i := 12) (by kernel_rfl) rfl rfl ?_
    intro K1 HK1
    go_wp2_with fail
    refine (takeKid_walk HI7d.out ⟨_, _, HP4_l.out⟩ HX.out (by have := B5.out; omega)).mono ?_
    rintro e w8 ⟨rfl, H8, hto, his, hsame⟩
    have hn8 := (hsame c (Ne.symm HLC.out)).trans HP4_c.out
    have hS8 : Blk w8 c 62 #[v', .slice AD nD cD] := (hto.in_.at_ hn8).blk
    refine HK1.out _ _ ⟨fun _ => hS8, ?_⟩
    clear HK1
    try simp only [Act.put, List.setIfInBounds_toArray, List.set_cons_zero, List.set_cons_succ]
    clear hn8
    have hto8 := To.trans (To.still HI4.out HD.out) hto
    rw [last_drop HLQ.out HZ.out] at his
    obtain ⟨vp5, vk5, hp5⟩ := his
    have HP5_l := Lib.hid hp5
    clear hp5
    have HP5_n := Lib.hid ((hsame n HNL.out).trans HP4_n.out)
    have HP5_c := Lib.hid ((hsame c (Ne.symm HLC.out)).trans HP4_c.out)
    have HS5 := Lib.hid (HS4.out.trans hsame (fun _ e => e) fun _ e => .inr (.inl e))
    have HTO5 := Lib.hid (HTO4.out.trans hto8)
    have HI5 := Lib.hid HTO5.out.in_
    clear hto8 hto hsame HI7d HD
    have hb2 := Blk.new w8 56 (encK x).toArray
    have ht2 := (Turn.refl nowhere w8).alloc (.cells (encK x).toArray 56)
    obtain ⟨g2, hg2⟩ : ∃ q, q = w8.heap.size := ⟨_, rfl⟩
    have hS9 : Blk (w8.alloc (.cells (encK x).toArray 56)) c 62 #[v', .slice AD nD cD] := hS8.alloc _
    have hbld := build_oneK x w8
    rw [← hg2] at hb2 hbld
    generalize w8.alloc (.cells (encK x).toArray 56) = w9 at *
    refine till_step (i := 13) (by kernel_rfl) rfl rfl ?_
    intro K1 HK1
    refine wp_run (v := .slice (some ⟨g2, 0, none⟩) 1 1) (w' := w9) (exec_buildSlice1 rfl rfl hbld) ?_
    refine HK1.out _ _ ⟨fun _ => hS9, ?_⟩
    clear HK1
    simp only [Act.put, List.setIfInBounds_toArray, List.set_cons_zero, List.set_cons_succ]
    have HBG := Lib.hid hb2
    have HT89 := Lib.hid ht2
    have HI89 := Lib.hid (HI5.out.still ht2)
    have HGN := Lib.hid (show (.slice AD nD cD : Value).ownBlock ≠ some g2 from fun e => by have := (HI5.out.at_ HP5_c.out).kds.lt e; omega)
    clear hb2 ht2 hbld hg2
    refine till_step (i := 14) (by kernel_rfl) rfl rfl ?_
    intro K1 HK1
    go_wp2_with fail
    refine (InsertK (i := 0) (HI89.out.at_ HP5_c.out).kds (by rw [List.length_map]; exact HLD.out.symm) (Nat.zero_le _) HBG.out rfl (encK_one x) HGN.out (by have := HLD.out; have := B6.out; omega)).mono ?_
    rintro e w10 ⟨v9, rfl, hrow, hto⟩
    have hS10 : Blk w10 c 62 #[v', .slice AD nD cD] := HI89.out.blkK HP5_c.out HP5_c.out hto.1
    refine HK1.out _ _ ⟨fun _ => hS10, ?_⟩
    clear HK1
    try simp only [Act.put, List.setIfInBounds_toArray, List.set_cons_zero, List.set_cons_succ]
    refine till_tail 15 rfl (by kernel_rfl) ?_
    refine wpList_run (v := .pointer (some ⟨c, 0, none⟩)) rfl (exec_nil rfl rfl) ?_
    simp only [Act.put, List.setIfInBounds_toArray, List.set_cons_zero, List.set_cons_succ]
    refine wpList_run (v := .pointer (some ⟨c, 1, none⟩)) rfl (exec_field (off := 0) (d := 1) rfl rfl (by kernel_rfl)) ?_
    simp only [Act.put, List.setIfInBounds_toArray, List.set_cons_zero, List.set_cons_succ]
    refine wpList_storeU 1 v9 rfl 60 _ _ rfl hS10 rfl rfl (by show 1 < 2; omega) (slice_one hrow) size_sK ?_
    intro w11 hb11 ht11
    have h24 := HI89.out.setK (ks' := x :: ck) HP5_c.out hto.1 hto.2 ht11 hb11 (by
      have h := hrow
      rw [ins_map] at h
      exact h)
    have HX11 := Lib.hid (To.trans (To.still HI5.out HT89.out) h24)
    clear hrow hto hb11 ht11 h24 hS10 hS9 hS8 hS0 HBG HGN
    refine wpList_nil ?_
    refine NoPanic.normal ?_
    simp only [Act.put, List.setIfInBounds_toArray, List.set_cons_zero, List.set_cons_succ]
    have HT6 := Lib.hid (HX11.out)
    obtain ⟨H6, hH6⟩ : ∃ q, q = up H8 c ⟨(p0 :: cp), (x :: ck), v', v9⟩ := ⟨_, rfl⟩
    have HP6_n := Lib.hid (show H6 n = some ⟨(ps.set j q0), ks, .slice (some ⟨bP, 0, none⟩) nP cP, .slice (some ⟨bK, 0, none⟩) nK cK⟩ from by rw [hH6, up_other _ _ _ HNC.out]; exact HP5_n.out)
    have HP6_l := Lib.hid (show H6 l = some ⟨(lp.take m), (lk.take z), vp5, vk5⟩ from by rw [hH6, up_other _ _ _ HLC.out]; exact HP5_l.out)
    have HP6_c := Lib.hid (show H6 c = some ⟨(p0 :: cp), (x :: ck), v', v9⟩ from by rw [hH6]; exact up_same _ _ _)
    have HS6 := Lib.hid (show Same H H6 (fun q => q = n ∨ q = l ∨ q = c) from by rw [hH6]; exact HS5.out.trans (same_up _ _ _) (fun _ e => e) fun _ e => .inr (.inr e))
    rw [← hH6] at HT6
    have HTO6 := Lib.hid (HTO5.out.trans HT6.out)
    have HI6 := Lib.hid HTO6.out.in_
    clear hH6
    go_wp2_with fail
    go_end0
    have e1 : lp.length - 1 = m := by have := HLL.out; have := HM.out; omega
    have e2 : lk.length - 1 = z := by have := HLQ.out; have := HZ.out; omega
    rw [e1, e2, HX.out]
    exact ⟨rfl, H6, HTO6.out, ⟨_, _, HP6_n.out⟩, ⟨_, _, HP6_l.out⟩, ⟨_, _, HP6_c.out⟩, HS6.out⟩
end Go.Proofs.Ytmlkdkbpbleilaa
