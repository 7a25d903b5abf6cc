/-
  Index: a key put into a tree: the walk. No conditions.
-/
import Derived.Test.YtmlkdkbpbleilaaIyA
namespace Go.Proofs.Ytmlkdkbpbleilaa
open Go.RowKit
open Ix
set_option linter.unusedVariables false
set_option linter.unusedSimpArgs false
theorem build_pair (k : Key) (v : Int) (W : World) : (Instr.build 65 #[(0, strV k), (1, .int .i64 v)]).run Try.prog W = .ok (.agg (encP (k, v)).toArray) W := by kernel_rfl
section
variable {w : World} {H : Hp} {p : Nat} {ps : List Pr} {ks : List Nat} {k : Key} {v M : Int}
set_option maxRecDepth 20000 in
set_option maxHeartbeats 4000000 in
theorem put_hit {q : Pr} (hin : In w H) (hp : Is H p ps ks) (hs : Srt ps) (hh : hit k ps = true) (hq : ps[fnd k ps]? = some q) (h8 : ps.length ≤ 1000) :
    Calls Try.prog 26 #[.pointer (some ⟨p, 0, none⟩), strV k, .int .i64 v, .int .i64 M] w fun e w' => e = .returned (.tuple #[.int .i64 q.2, .bool true]) ∧ ∃ H', To w H w' H' ∧ Is H' p (ps.set (fnd k ps) (q.1, v)) ks ∧ Same H H' (fun a => a = p) := by
  have HIN := Lib.hid hin
  obtain ⟨vp, vk, hp⟩ := hp
  obtain ⟨b2, c2, e, _, _⟩ := (show NodeAt w p vp vk ps ks from hin.at_ hp).prs.some_ (by rw [List.length_map]; exact Nat.lt_of_le_of_lt (Nat.zero_le _) (List.getElem?_eq_some_iff.1 hq).1)
  obtain ⟨n0, hn0⟩ : ∃ n, n = ps.length := ⟨_, rfl⟩
  replace e := e.trans (show _ = Value.slice (some ⟨b2, 0, none⟩) n0 c2 from by rw [List.length_map, hn0])
  subst e
  obtain ⟨i, hi0⟩ : ∃ i, i = fnd k ps := ⟨_, rfl⟩
  have hf := find_walk (k := k) (show NodeAt w p (.slice (some ⟨b2, 0, none⟩) n0 c2) vk ps ks from hin.at_ hp) hs (by omega)
  rw [hh] at hf
  rw [← hi0] at hf hq ⊢
  have HF := Lib.hid hf
  have HP := Lib.hid hp
  have HQ := Lib.hid hq
  have HIP := Lib.hid (show i < n0 from by rw [hn0]; exact (List.getElem?_eq_some_iff.1 hq).1)
  clear hin hp hs hh hq h8 hn0 hi0 hf
  go_enter Try.func26, Try.ntmps26
  go_upto_region 1 with fail
  refine wp_region_lit ?_
  refine wpList_run (v := .pointer (some ⟨p, 0, none⟩)) (wanted_none rfl) (exec_move rfl rfl) ?_
  simp only [Act.put, List.setIfInBounds_toArray, List.set_cons_zero, List.set_cons_succ]
  refine wpList_run (v := strV k) (wanted_none rfl) (exec_move rfl rfl) ?_
  simp only [Act.put, List.setIfInBounds_toArray, List.set_cons_zero, List.set_cons_succ]
  refine wpList_op rfl fun K9 HK9 => ?_
  go_wp2_with fail
  refine (HF.out).mono ?_
  rintro e w1 ⟨rfl, ht1⟩
  refine HK9.out _ _ ?_
  clear HK9
  try simp only [Act.put, List.setIfInBounds_toArray, List.set_cons_zero, List.set_cons_succ]
  refine wpList_run (v := .tuple #[.int .i64 (i : Int), .bool true]) (wanted_none rfl) (exec_move rfl rfl) ?_
  simp only [Act.put, List.setIfInBounds_toArray, List.set_cons_zero, List.set_cons_succ]
  refine wpList_run (v := .int .i64 (i : Int)) (wanted_none rfl) (ix_extract rfl rfl rfl) ?_
  simp only [Act.put, List.setIfInBounds_toArray, List.set_cons_zero, List.set_cons_succ]
  refine wpList_run (v := .bool true) (wanted_none rfl) (ix_extract rfl rfl rfl) ?_
  simp only [Act.put, List.setIfInBounds_toArray, List.set_cons_zero, List.set_cons_succ]
  refine wpList_run (v := .int .i64 (i : Int)) (wanted_none rfl) (gx_assign rfl rfl) ?_
  simp only [Act.put, List.setIfInBounds_toArray, List.set_cons_zero, List.set_cons_succ]
  refine wpList_run (v := .bool true) (wanted_none rfl) (gx_assign rfl rfl) ?_
  simp only [Act.put, List.setIfInBounds_toArray, List.set_cons_zero, List.set_cons_succ]
  have HT1 := Lib.hid ht1
  have HI1 := Lib.hid (HIN.out.still ht1)
  clear ht1
  go_upto_region 2 with fail
  refine wp_region_lit ?_
  refine wpList_run (v := .bool true) (wanted_none rfl) (exec_move rfl rfl) ?_
  simp only [Act.put, List.setIfInBounds_toArray, List.set_cons_zero, List.set_cons_succ]
  go_upto_region 3 with fail
  refine wp_region_lit ?_
  refine wpList_run (v := .pointer (some ⟨p, 0, none⟩)) (wanted_none rfl) (exec_move rfl rfl) ?_
  simp only [Act.put, List.setIfInBounds_toArray, List.set_cons_zero, List.set_cons_succ]
  refine wpList_run (v := .pointer (some ⟨p, 0, none⟩)) (wanted_none rfl) (exec_nil rfl rfl) ?_
  simp only [Act.put, List.setIfInBounds_toArray, List.set_cons_zero, List.set_cons_succ]
  refine wpList_run (v := .pointer (some ⟨p, 0, none⟩)) (wanted_none rfl) (exec_field (off := 0) (d := 0) rfl rfl (by kernel_rfl)) ?_
  simp only [Act.put, List.setIfInBounds_toArray, List.set_cons_zero, List.set_cons_succ]
  refine wpList_run (v := .slice (some ⟨b2, 0, none⟩) n0 c2) (wanted_none rfl) (exec_load1 rfl rfl (by kernel_rfl) ((HI1.out.at_ HP.out).blk.cell 0)) ?_
  simp only [Act.put, List.setIfInBounds_toArray, List.set_cons_zero, List.set_cons_succ]
  refine wpList_run (v := .int .i64 (i : Int)) (wanted_none rfl) (exec_move rfl rfl) ?_
  simp only [Act.put, List.setIfInBounds_toArray, List.set_cons_zero, List.set_cons_succ]
  refine wpList_run (v := .pointer (some ⟨b2, 0 + i * 2, none⟩)) (wanted_none rfl) (gx_iaddr (i := i) (sz := 2) rfl rfl rfl Try.underlying59 size_pair HIP.out rfl) ?_
  simp only [Act.put, List.setIfInBounds_toArray, List.set_cons_zero, List.set_cons_succ]
  refine wpList_run (v := .pointer (some ⟨b2, 0 + i * 2 + 1, none⟩)) (wanted_none rfl) (exec_field (off := 0 + i * 2) (d := 1) rfl rfl (by kernel_rfl)) ?_
  simp only [Act.put, List.setIfInBounds_toArray, List.set_cons_zero, List.set_cons_succ]
  refine wpList_run (v := .int .i64 q.2) (wanted_none rfl) (exec_load1 rfl rfl (by kernel_rfl) ((HI1.out.at_ HP.out).prs.el0 (r := encP q) (by rw [List.getElem?_map, HQ.out]; rfl) 1 _ rfl)) ?_
  simp only [Act.put, List.setIfInBounds_toArray, List.set_cons_zero, List.set_cons_succ]
  refine wpList_run (v := .int .i64 q.2) (wanted_none rfl) (gx_assign rfl rfl) ?_
  simp only [Act.put, List.setIfInBounds_toArray, List.set_cons_zero, List.set_cons_succ]
  go_upto_region 4 with fail
  refine wp_region_lit ?_
  refine wpList_run (v := .pointer (some ⟨p, 0, none⟩)) (wanted_none rfl) (exec_move rfl rfl) ?_
  simp only [Act.put, List.setIfInBounds_toArray, List.set_cons_zero, List.set_cons_succ]
  refine wpList_run (v := .pointer (some ⟨p, 0, none⟩)) (wanted_none rfl) (exec_nil rfl rfl) ?_
  simp only [Act.put, List.setIfInBounds_toArray, List.set_cons_zero, List.set_cons_succ]
  refine wpList_run (v := .pointer (some ⟨p, 0, none⟩)) (wanted_none rfl) (exec_field (off := 0) (d := 0) rfl rfl (by kernel_rfl)) ?_
  simp only [Act.put, List.setIfInBounds_toArray, List.set_cons_zero, List.set_cons_succ]
  refine wpList_run (v := .slice (some ⟨b2, 0, none⟩) n0 c2) (wanted_none rfl) (exec_load1 rfl rfl (by kernel_rfl) ((HI1.out.at_ HP.out).blk.cell 0)) ?_
  simp only [Act.put, List.setIfInBounds_toArray, List.set_cons_zero, List.set_cons_succ]
  refine wpList_run (v := .int .i64 (i : Int)) (wanted_none rfl) (exec_move rfl rfl) ?_
  simp only [Act.put, List.setIfInBounds_toArray, List.set_cons_zero, List.set_cons_succ]
  refine wpList_run (v := .int .i64 v) (wanted_none rfl) (exec_move rfl rfl) ?_
  simp only [Act.put, List.setIfInBounds_toArray, List.set_cons_zero, List.set_cons_succ]
  refine wpList_run (v := .pointer (some ⟨b2, 0 + i * 2, none⟩)) (wanted_none rfl) (gx_iaddr (i := i) (sz := 2) rfl rfl rfl Try.underlying59 size_pair HIP.out rfl) ?_
  simp only [Act.put, List.setIfInBounds_toArray, List.set_cons_zero, List.set_cons_succ]
  refine wpList_run (v := .pointer (some ⟨b2, 0 + i * 2 + 1, none⟩)) (wanted_none rfl) (exec_field (off := 0 + i * 2) (d := 1) rfl rfl (by kernel_rfl)) ?_
  simp only [Act.put, List.setIfInBounds_toArray, List.set_cons_zero, List.set_cons_succ]
  obtain ⟨cur, hcur, hcs, _, _, hnc, _, _⟩ := orw_block (HI1.out.at_ HP.out).prs
  refine wpList_storeU (0 + i * 2 + 1) (.int .i64 v) rfl 3 _ _ rfl hcur rfl rfl (by rw [hcs]; have := HIP.out; omega) ⟨rfl, rfl⟩ (by kernel_rfl) ?_
  intro w2 hb2 ht2
  simp only [Act.put, List.setIfInBounds_toArray, List.set_cons_zero, List.set_cons_succ]
  have hrow := orw_num (HI1.out.at_ HP.out).prs hcur hb2 HIP.out HQ.out
  have ht2' : Turn (fun bb => (.slice (some ⟨b2, 0, none⟩) n0 c2 : Value).ownBlock = some bb) w1 w2 := ht2.mono fun k _ e => by
    have e : k = b2 := e
    rw [e]; rfl
  have HX := Lib.hid ((To.still HIN.out HT1.out).trans (HI1.out.setP (ps' := ps.set i (q.1, v)) HP.out ht2' (fun b hb => .inl hb) (Turn.refl _ _) (HI1.out.blkP HP.out HP.out ht2') hrow))
  clear hcur hcs hnc hb2 ht2 hrow ht2'
  go_upto_region 5 with fail
  refine wp_region_lit ?_
  refine wpList_run (v := .int .i64 q.2) (wanted_none rfl) (exec_move rfl rfl) ?_
  simp only [Act.put, List.setIfInBounds_toArray, List.set_cons_zero, List.set_cons_succ]
  refine wpList_run (v := .int .i64 q.2) (wanted_none rfl) (gx_assign rfl rfl) ?_
  simp only [Act.put, List.setIfInBounds_toArray, List.set_cons_zero, List.set_cons_succ]
  refine wpList_run (v := .bool true) (wanted_none rfl) (gx_assign rfl rfl) ?_
  simp only [Act.put, List.setIfInBounds_toArray, List.set_cons_zero, List.set_cons_succ]
  go_wp2_with fail
  go_ret2
  exact ⟨rfl, _, HX.out, ⟨_, _, up_same _ _ _⟩, same_up _ _ _⟩
set_option maxRecDepth 20000 in
set_option maxHeartbeats 4000000 in
theorem put_ins (hin : In w H) (hp : Is H p ps []) (hs : Srt ps) (hh : hit k ps = false) (h8 : ps.length ≤ 1000) (hk : k.length ≤ 281474976710656) :
    Calls Try.prog 26 #[.pointer (some ⟨p, 0, none⟩), strV k, .int .i64 v, .int .i64 M] w fun e w' => e = .returned (.tuple #[.int .i64 0, .bool false]) ∧ ∃ H', To w H w' H' ∧ Is H' p (ps.take (fnd k ps) ++ (k, v) :: ps.drop (fnd k ps)) [] ∧ Same H H' (fun a => a = p) := by
  have HIN := Lib.hid hin
  have HKL := Lib.hid hk
  obtain ⟨vp, vk, hp⟩ := hp
  obtain ⟨A2, c2, e, _, _, _, _⟩ := (show NodeAt w p vp vk ps [] from hin.at_ hp).prs.form
  obtain ⟨n0, hn0⟩ : ∃ n, n = ps.length := ⟨_, rfl⟩
  replace e := e.trans (show _ = Value.slice A2 n0 c2 from by rw [List.length_map, hn0])
  subst e
  obtain ⟨i, hi0⟩ : ∃ i, i = fnd k ps := ⟨_, rfl⟩
  have hf := find_walk (k := k) (show NodeAt w p (.slice A2 n0 c2) vk ps [] from hin.at_ hp) hs (by omega)
  rw [hh] at hf
  have HIL := Lib.hid (show i ≤ n0 from by rw [hi0, hn0]; exact fnd_le k ps)
  rw [← hi0] at hf ⊢
  have HF := Lib.hid hf
  have HP := Lib.hid hp
  have HN0 := Lib.hid hn0
  have HN8 := Lib.hid (show n0 ≤ 1000 from by omega)
  clear hin hp hs hh h8 hn0 hi0 hf hk
  go_enter Try.func26, Try.ntmps26
  go_upto_region 1 with fail
  refine wp_region_lit ?_
  refine wpList_run (v := .pointer (some ⟨p, 0, none⟩)) (wanted_none rfl) (exec_move rfl rfl) ?_
  simp only [Act.put, List.setIfInBounds_toArray, List.set_cons_zero, List.set_cons_succ]
  refine wpList_run (v := strV k) (wanted_none rfl) (exec_move rfl rfl) ?_
  simp only [Act.put, List.setIfInBounds_toArray, List.set_cons_zero, List.set_cons_succ]
  refine wpList_op rfl fun K9 HK9 => ?_
  go_wp2_with fail
  refine (HF.out).mono ?_
  rintro e w1 ⟨rfl, ht1⟩
  refine HK9.out _ _ ?_
  clear HK9
  try simp only [Act.put, List.setIfInBounds_toArray, List.set_cons_zero, List.set_cons_succ]
  refine wpList_run (v := .tuple #[.int .i64 (i : Int), .bool false]) (wanted_none rfl) (exec_move rfl rfl) ?_
  simp only [Act.put, List.setIfInBounds_toArray, List.set_cons_zero, List.set_cons_succ]
  refine wpList_run (v := .int .i64 (i : Int)) (wanted_none rfl) (ix_extract rfl rfl rfl) ?_
  simp only [Act.put, List.setIfInBounds_toArray, List.set_cons_zero, List.set_cons_succ]
  refine wpList_run (v := .bool false) (wanted_none rfl) (ix_extract rfl rfl rfl) ?_
  simp only [Act.put, List.setIfInBounds_toArray, List.set_cons_zero, List.set_cons_succ]
  refine wpList_run (v := .int .i64 (i : Int)) (wanted_none rfl) (gx_assign rfl rfl) ?_
  simp only [Act.put, List.setIfInBounds_toArray, List.set_cons_zero, List.set_cons_succ]
  refine wpList_run (v := .bool false) (wanted_none rfl) (gx_assign rfl rfl) ?_
  simp only [Act.put, List.setIfInBounds_toArray, List.set_cons_zero, List.set_cons_succ]
  have HT1 := Lib.hid ht1
  have HI1 := Lib.hid (HIN.out.still ht1)
  clear ht1
  go_upto_region 2 with fail
  refine wp_region_lit ?_
  refine wpList_run (v := .bool false) (wanted_none rfl) (exec_move rfl rfl) ?_
  simp only [Act.put, List.setIfInBounds_toArray, List.set_cons_zero, List.set_cons_succ]
  go_upto_region 6 with fail
  refine wp_region_lit ?_
  refine wpList_run (v := .pointer (some ⟨p, 0, none⟩)) (wanted_none rfl) (exec_move rfl rfl) ?_
  simp only [Act.put, List.setIfInBounds_toArray, List.set_cons_zero, List.set_cons_succ]
  refine wpList_op rfl fun K9 HK9 => ?_
  go_wp2_with fail
  refine (lowest_walk (ks := []) (HI1.out.at_ HP.out)).mono ?_
  rintro e w2 ⟨rfl, hw2⟩
  refine HK9.out _ _ ?_
  clear HK9
  try simp only [Act.put, List.setIfInBounds_toArray, List.set_cons_zero, List.set_cons_succ]
  subst hw2
  go_upto_region 7 with fail
  refine wp_region_till (fun W => Blk W p 62 #[.slice A2 n0 c2, vk]) 12 (by kernel_rfl) ?_
  have HD := Lib.hid ((Turn.refl nowhere w2).drew)
  have hS0 : Blk w2.drew p 62 #[.slice A2 n0 c2, vk] := (HI1.out.at_ HP.out).blk
  refine till_take (i := 0) (v := .pointer (some ⟨p, 0, none⟩)) rfl (by kernel_rfl) (by kernel_rfl) (fun _ _ _ h => h) (.inl ⟨by rfl, fun W hW => exec_move rfl rfl⟩) hS0 ?_
  simp only [Act.put, List.setIfInBounds_toArray, List.set_cons_zero, List.set_cons_succ]
  refine till_take (i := 1) (v := .pointer (some ⟨p, 0, none⟩)) rfl (by kernel_rfl) (by kernel_rfl) (fun _ _ _ h => h) (.inl ⟨by rfl, fun W hW => exec_move rfl rfl⟩) hS0 ?_
  simp only [Act.put, List.setIfInBounds_toArray, List.set_cons_zero, List.set_cons_succ]
  refine till_take (i := 2) (v := .pointer (some ⟨p, 0, none⟩)) rfl (by kernel_rfl) (by kernel_rfl) (fun _ _ _ h => h) (.inl ⟨by rfl, fun W hW => exec_nil rfl rfl⟩) hS0 ?_
  simp only [Act.put, List.setIfInBounds_toArray, List.set_cons_zero, List.set_cons_succ]
  refine till_take (i := 3) (v := .pointer (some ⟨p, 0, none⟩)) rfl (by kernel_rfl) (by kernel_rfl) (fun _ _ _ h => h) (.inl ⟨by rfl, fun W hW => exec_field (off := 0) (d := 0) rfl rfl (by kernel_rfl)⟩) hS0 ?_
  simp only [Act.put, List.setIfInBounds_toArray, List.set_cons_zero, List.set_cons_succ]
  refine till_take (i := 4) (v := .slice A2 n0 c2) rfl (by kernel_rfl) (by kernel_rfl) (fun _ _ _ h => h) (.inl ⟨by rfl, fun W hW => exec_load1 rfl rfl (by kernel_rfl) (hW.cell 0)⟩) hS0 ?_
  simp only [Act.put, List.setIfInBounds_toArray, List.set_cons_zero, List.set_cons_succ]
  refine till_take (i := 5) (v := .int .i64 (i : Int)) rfl (by kernel_rfl) (by kernel_rfl) (fun _ _ _ h => h) (.inl ⟨by rfl, fun W hW => exec_move rfl rfl⟩) hS0 ?_
  simp only [Act.put, List.setIfInBounds_toArray, List.set_cons_zero, List.set_cons_succ]
  refine till_take (i := 6) (v := strV k) rfl (by kernel_rfl) (by kernel_rfl) (fun _ _ _ h => h) (.inl ⟨by rfl, fun W hW => exec_move rfl rfl⟩) hS0 ?_
  simp only [Act.put, List.setIfInBounds_toArray, List.set_cons_zero, List.set_cons_succ]
  refine till_take (i := 8) (v := .int .i64 v) rfl (by kernel_rfl) (by kernel_rfl) (fun _ _ _ h => h) (.inl ⟨by rfl, fun W hW => exec_move rfl rfl⟩) hS0 ?_
  simp only [Act.put, List.setIfInBounds_toArray, List.set_cons_zero, List.set_cons_succ]
  refine till_step (i := 7) (by kernel_rfl) rfl rfl ?_
  intro K1 HK1
  go_wp2_with fail
  refine (clone_walk k _ HKL.out).mono ?_
  rintro e w3 ⟨rfl, ht3⟩
  have hS3 : Blk w3 p 62 #[.slice A2 n0 c2, vk] := hS0.turn ht3 (fun e => e)
  refine HK1.out _ _ ⟨fun _ => hS3, ?_⟩
  clear HK1
  try simp only [Act.put, List.setIfInBounds_toArray, List.set_cons_zero, List.set_cons_succ]
  have HT3 := Lib.hid ht3
  refine till_step (i := 9) (by kernel_rfl) rfl rfl ?_
  intro K1 HK1
  refine wp_run (v := .agg (encP (k, v)).toArray) (gx_build2 rfl rfl rfl (build_pair k v _)) ?_
  refine HK1.out _ _ ⟨fun _ => hS3, ?_⟩
  clear HK1
  simp only [Act.put, List.setIfInBounds_toArray, List.set_cons_zero, List.set_cons_succ]
  have hb2 := Blk.new w3 65 (encP (k, v)).toArray
  have ht4 := (Turn.refl nowhere w3).alloc (.cells (encP (k, v)).toArray 65)
  obtain ⟨g2, hg2⟩ : ∃ q, q = w3.heap.size := ⟨_, rfl⟩
  have hS4 : Blk (w3.alloc (.cells (encP (k, v)).toArray 65)) p 62 #[.slice A2 n0 c2, vk] := hS3.alloc _
  have hbld := build_oneP (k, v) w3
  rw [← hg2] at hb2 hbld
  generalize w3.alloc (.cells (encP (k, v)).toArray 65) = w4 at *
  refine till_step (i := 10) (by kernel_rfl) rfl rfl ?_
  intro K1 HK1
  refine wp_run (v := .slice (some ⟨g2, 0, none⟩) 1 1) (w' := w4) (exec_buildSlice1 rfl rfl hbld) ?_
  refine HK1.out _ _ ⟨fun _ => hS4, ?_⟩
  clear HK1
  simp only [Act.put, List.setIfInBounds_toArray, List.set_cons_zero, List.set_cons_succ]
  have HBG := Lib.hid hb2
  have HT4 := Lib.hid (HD.out.trans (HT3.out.trans ht4 fun _ _ e => e) fun _ _ e => e)
  have HI4 := Lib.hid (HI1.out.still HT4.out)
  have HGN := Lib.hid (show (Value.slice A2 n0 c2).ownBlock ≠ some g2 from fun e => by
    have := (HI1.out.at_ HP.out).prs.lt e
    have h9 : w2.drew.heap.size = w2.heap.size := rfl
    have := HT3.out.size
    omega)
  clear hb2 ht3 ht4 hbld hg2
  refine till_step (i := 11) (by kernel_rfl) rfl rfl ?_
  intro K1 HK1
  go_wp2_with fail
  refine (InsertP (i := i) (HI4.out.at_ HP.out).prs (by rw [List.length_map]; exact HN0.out.symm) HIL.out HBG.out rfl (encP_one (k, v)) HGN.out (by have := HN8.out; omega)).mono ?_
  rintro e w5 ⟨v5, rfl, hrow, hto⟩
  have hS5 : Blk w5 p 62 #[.slice A2 n0 c2, vk] := HI4.out.blkP HP.out HP.out hto.1
  refine HK1.out _ _ ⟨fun _ => hS5, ?_⟩
  clear HK1
  try simp only [Act.put, List.setIfInBounds_toArray, List.set_cons_zero, List.set_cons_succ]
  refine till_tail 12 rfl (by kernel_rfl) ?_
  refine wpList_run (v := .pointer (some ⟨p, 0, none⟩)) (wanted_none rfl) (exec_nil rfl rfl) ?_
  simp only [Act.put, List.setIfInBounds_toArray, List.set_cons_zero, List.set_cons_succ]
  refine wpList_run (v := .pointer (some ⟨p, 0, none⟩)) (wanted_none rfl) (exec_field (off := 0) (d := 0) rfl rfl (by kernel_rfl)) ?_
  simp only [Act.put, List.setIfInBounds_toArray, List.set_cons_zero, List.set_cons_succ]
  refine wpList_storeU 0 v5 rfl 59 _ _ rfl hS5 rfl rfl (by show 0 < 2; omega) (slice_one hrow) size_sP ?_
  intro w6 hb6 ht6
  have h24 := HI4.out.setP (ps' := ps.take i ++ (k, v) :: ps.drop i) HP.out hto.1 hto.2 ht6 hb6 (by
    have h := hrow
    rw [ins_map] at h
    exact h)
  have HX := Lib.hid ((To.still HIN.out HT1.out).trans (To.trans (To.still HI1.out HT4.out) h24))
  clear hrow hto hb6 ht6 h24 hS5 hS4 hS3 hS0
  refine wpList_nil ?_
  refine NoPanic.normal ?_
  try simp only [Act.put, List.setIfInBounds_toArray, List.set_cons_zero, List.set_cons_succ]
  go_upto_region 8 with fail
  refine wp_region_lit ?_
  refine wpList_run (v := .int .i64 0) (wanted_none rfl) (gx_assign rfl rfl) ?_
  simp only [Act.put, List.setIfInBounds_toArray, List.set_cons_zero, List.set_cons_succ]
  refine wpList_run (v := .bool false) (wanted_none rfl) (gx_assign rfl rfl) ?_
  simp only [Act.put, List.setIfInBounds_toArray, List.set_cons_zero, List.set_cons_succ]
  go_wp2_with fail
  go_ret2
  exact ⟨rfl, _, HX.out, ⟨_, _, up_same _ _ _⟩, same_up _ _ _⟩
end
theorem tput_hit {k : Key} {v : Int} {M d : Nat} {t : Tr (d + 1)} (h : (t.1[fnd k t.1]?).map (fun q : Pr => q.1) = some k) : tput k v M t = nodeT (t.1.set (fnd k t.1) (k, v)) t.2 := if_pos h
theorem tput_in {k : Key} {v : Int} {M d : Nat} {t : Tr (d + 1)} {c : Tr d} (h : ¬ (t.1[fnd k t.1]?).map (fun q : Pr => q.1) = some k) (hc : t.2[fnd k t.1]? = some c) : tput k v M t = (if M < (tput k v M c).ps.length then nodeT (t.1.take (fnd k t.1) ++ splitM (tput k v M c) :: t.1.drop (fnd k t.1)) (t.2.take (fnd k t.1) ++ splitL (tput k v M c) :: splitR (tput k v M c) :: t.2.drop (fnd k t.1 + 1)) else nodeT t.1 (t.2.set (fnd k t.1) (tput k v M c))) := by
  refine (if_neg h).trans ?_
  rw [hc]
set_option maxRecDepth 20000 in
set_option maxHeartbeats 8000000 in
theorem put_walk {m M : Nat} {k : Key} {v : Int} (hm : m = M / 2) (h2 : 2 ≤ M) (hM : M < 700) (hkl : k.length ≤ 281474976710656) : ∀ {d : Nat} {t : Tr d} {w : World} {H : Hp} {p lo hi : Nat} {F : List Nat}, Tree w H p t F m M lo hi → Srt (flat t) → hi < 700 →
    Calls Try.prog 26 #[.pointer (some ⟨p, 0, none⟩), strV k, .int .i64 v, .int .i64 (M : Int)] w fun e w' => e = .returned (retV (tget k t)) ∧ After w H p F (tput k v M t) w' := by
  intro d
  induction d with
  | zero =>
    intro t w H p lo hi F h hs h8
    obtain ⟨his, rfl⟩ := h.tr
    have n2 : t.1.length ≤ hi := h.nb.hi
    have hst : Srt t.1 := hs
    have hg := tget_leaf (k := k) (t := t)
    cases hh : hit k t.1 with
    | true =>
      obtain ⟨q, hq, hqk⟩ := hit_yes hh
      refine (put_hit (v := v) (M := M) h.hin his hst hh hq (by omega)).mono ?_
      rintro e w' ⟨rfl, H', hto, hi', hs'⟩
      rw [hg, hh, hq]
      refine ⟨rfl, AfterX.a (H' := H') (F' := [p]) ?_⟩
      have e1 : tput k v M t = (t.1.set (fnd k t.1) (q.1, v), ()) := by
        show ((if (t.1[fnd k t.1]?).map (fun q : Pr => q.1) = some k then t.1.set (fnd k t.1) (k, v) else t.1.take (fnd k t.1) ++ (k, v) :: t.1.drop (fnd k t.1), ()) : List Pr × Unit) = _
        rw [if_pos (by rw [hq, ← hqk]; rfl), hqk]
      rw [e1]
      exact after_leaf hto hi' hs'
    | false =>
      refine (put_ins (v := v) (M := M) h.hin his hst hh (by omega) hkl).mono ?_
      rintro e w' ⟨rfl, H', hto, hi', hs'⟩
      rw [hg, hh]
      refine ⟨rfl, AfterX.a (H' := H') (F' := [p]) ?_⟩
      have e1 : tput k v M t = (t.1.take (fnd k t.1) ++ (k, v) :: t.1.drop (fnd k t.1), ()) := by
        show ((if (t.1[fnd k t.1]?).map (fun q : Pr => q.1) = some k then t.1.set (fnd k t.1) (k, v) else t.1.take (fnd k t.1) ++ (k, v) :: t.1.drop (fnd k t.1), ()) : List Pr × Unit) = _
        rw [if_neg (hit_no hh)]
      rw [e1]
      exact after_leaf hto hi' hs'
  | succ d ih =>
    intro t w H p lo hi F h hs h8
    have hlen := h.nb.2.2.1
    have n1 : lo ≤ t.1.length := h.nb.lo
    have n2 : t.1.length ≤ hi := h.nb.hi
    have hst : Srt t.1 := srt_top h.nb hs
    obtain ⟨i, hi0⟩ : ∃ i, i = fnd k t.1 := ⟨_, rfl⟩
    have hle : i ≤ t.1.length := by rw [hi0]; exact fnd_le k t.1
    obtain ⟨c, hc⟩ : ∃ c, t.2[i]? = some c := ⟨_, List.getElem?_eq_getElem (show i < t.2.length by omega)⟩
    have hcf : t.2[fnd k t.1]? = some c := by rw [← hi0]; exact hc
    cases hh : hit k t.1 with
    | true =>
      obtain ⟨q, hq, hqk⟩ := hit_yes hh
      obtain ⟨ks, F', his, hka, rfl⟩ := id h.tr
      refine (put_hit (v := v) (M := M) h.hin his hst hh hq (by omega)).mono ?_
      rintro e w' ⟨rfl, H', hto, hi', hs'⟩
      rw [tget_yes hq hqk hcf, tput_hit (by rw [hq, ← hqk]; rfl), ← hqk, hqk]
      refine ⟨rfl, AfterX.a (after_pairs h.tr h.nd his hto ?_ hs')⟩
      rw [← hqk, hqk]
      rw [hqk] at hi'
      exact hi'
    | false =>
      have HIN := Lib.hid h.hin
      have nc := nd_kid h.nb hc
      obtain ⟨ks1, x, ks2, F1, Gx, F2, q1, q2, q3, q4, q5, rfl⟩ := one_kid h.tr hc
      have hlt := fun q hq => TrAt.lt h.hin h.tr q hq
      have HTR := Lib.hid (fun (w1 : World) (ht : Turn nowhere w w1) => ih (t := c) (w := w1) (H := H) (p := x) (F := Gx) ⟨h.hin.still ht, q4, nd_mid h.nd, nc⟩ (srt_kid h.nb hs hcf) (by omega))
      obtain ⟨tf, tn⟩ := tput_ok (k := k) (n := v) hm h2 nc (srt_kid h.nb hs hcf)
      have HKD := Lib.hid (fun (c' : Tr d) (w1 w2 : World) (H' : Hp) (G' : List Nat) (ht : Turn nowhere w w1) (ha : AfterX w1 H x Gx c' w2 H' G') => after_kid (t := t) (i := i) (h.hin.still ht) h.nd (fun q hq => Nat.lt_of_lt_of_le (hlt q hq) ht.size) q1 q3 q5 (by omega) ha)
      have HPX := Lib.hid (show p ∉ Gx from fun e => by
        have a1 := h.nd p
        have a2 := cnt_mem e
        simp only [List.count_append, List.count_cons, beq_self_eq_true, if_true] at a1
        omega)
      have HPL := Lib.hid (hlt p (List.mem_cons_self ..))
      obtain ⟨ks, hks⟩ : ∃ ks, ks = ks1 ++ x :: ks2 := ⟨_, rfl⟩
      rw [← hks] at q1
      have HL := Lib.hid (not_leaf h.tr h.nb q1)
      have hkk : ks.length = t.2.length := by
        obtain ⟨ks', F', g1, g2, _⟩ := h.tr
        obtain ⟨_, e⟩ := q1.inj g1
        rw [e, g2.len]
      have HKX := Lib.hid (show ks[i]? = some x from by rw [hks]; exact ks_at1 q2)
      obtain ⟨vp, vk, hp⟩ := q1
      obtain ⟨b, cc, e, _, _⟩ := (show NodeAt w p vp vk t.1 ks from h.hin.at_ hp).kds.some_ (by rw [List.length_map]; omega)
      obtain ⟨n, hn⟩ : ∃ n, n = ks.length := ⟨_, rfl⟩
      replace e := e.trans (show _ = Value.slice (some ⟨b, 0, none⟩) n cc from by rw [List.length_map, hn])
      subst e
      obtain ⟨A2, c2, e, _, _, _, _⟩ := (show NodeAt w p vp (.slice (some ⟨b, 0, none⟩) n cc) t.1 ks from h.hin.at_ hp).prs.form
      obtain ⟨n0, hn0⟩ : ∃ n, n = t.1.length := ⟨_, rfl⟩
      replace e := e.trans (show _ = Value.slice A2 n0 c2 from by rw [List.length_map, hn0])
      subst e
      have HP := Lib.hid hp
      have HIN2 := Lib.hid (show i < n from by omega)
      have HN0 := Lib.hid hn0
      have HN := Lib.hid hn
      have HF := Lib.hid (show Calls Try.prog 31 #[.pointer (some ⟨p, 0, none⟩), strV k] w fun e w' => e = .returned (.tuple #[.int .i64 (i : Int), .bool false]) ∧ Turn nowhere w w' from by
        rw [hi0, ← hh]
        exact find_walk (h.hin.at_ hp) hst (by omega))
      have HGN := Lib.hid (tget_no (hit_no hh) hcf)
      have HTP := Lib.hid (show tput k v M t = (if M < (tput k v M c).ps.length then nodeT (t.1.take i ++ splitM (tput k v M c) :: t.1.drop i) (t.2.take i ++ splitL (tput k v M c) :: splitR (tput k v M c) :: t.2.drop (i + 1)) else nodeT t.1 (t.2.set i (tput k v M c))) from by rw [hi0]; exact tput_in (hit_no hh) hcf)
      obtain ⟨C, hC⟩ : ∃ C, C = tput k v M c := ⟨_, rfl⟩
      rw [← hC] at tn
      have HCE := Lib.hid hC
      rw [← hC] at HTP
      have HTN := Lib.hid (show Nd m M m (M + 1) C from tn)
      have HIL := Lib.hid (show i < t.2.length from by omega)
      have HIN0 := Lib.hid (show i ≤ n0 from by omega)
      have HM7 := Lib.hid (show M < 700 ∧ n0 < 700 ∧ n < 800 from by omega)
      have y1 : (M : Int) ≤ 700 := by omega
      have HMQ := Lib.hid hm
      have HH2 := Lib.hid h2
      clear hm h2 hks hkk hp hn hn0 q2 q3 q4 q5 hlt nc hi0 hc hcf hst hle h hs h8 hlen n1 n2 ih tf tn hh hC hM hkl
      go_enter Try.func26, Try.ntmps26
      go_upto_region 1 with fail
      refine wp_region_lit ?_
      refine wpList_run (v := .pointer (some ⟨p, 0, none⟩)) (wanted_none rfl) (exec_move rfl rfl) ?_
      simp only [Act.put, List.setIfInBounds_toArray, List.set_cons_zero, List.set_cons_succ]
      refine wpList_run (v := strV k) (wanted_none rfl) (exec_move rfl rfl) ?_
      simp only [Act.put, List.setIfInBounds_toArray, List.set_cons_zero, List.set_cons_succ]
      refine wpList_op rfl fun K9 HK9 => ?_
      go_wp2_with fail
      refine (HF.out).mono ?_
      rintro e w1 ⟨rfl, ht1⟩
      refine HK9.out _ _ ?_
      clear HK9
      try simp only [Act.put, List.setIfInBounds_toArray, List.set_cons_zero, List.set_cons_succ]
      refine wpList_run (v := .tuple #[.int .i64 (i : Int), .bool false]) (wanted_none rfl) (exec_move rfl rfl) ?_
      simp only [Act.put, List.setIfInBounds_toArray, List.set_cons_zero, List.set_cons_succ]
      refine wpList_run (v := .int .i64 (i : Int)) (wanted_none rfl) (ix_extract rfl rfl rfl) ?_
      simp only [Act.put, List.setIfInBounds_toArray, List.set_cons_zero, List.set_cons_succ]
      refine wpList_run (v := .bool false) (wanted_none rfl) (ix_extract rfl rfl rfl) ?_
      simp only [Act.put, List.setIfInBounds_toArray, List.set_cons_zero, List.set_cons_succ]
      refine wpList_run (v := .int .i64 (i : Int)) (wanted_none rfl) (gx_assign rfl rfl) ?_
      simp only [Act.put, List.setIfInBounds_toArray, List.set_cons_zero, List.set_cons_succ]
      refine wpList_run (v := .bool false) (wanted_none rfl) (gx_assign rfl rfl) ?_
      simp only [Act.put, List.setIfInBounds_toArray, List.set_cons_zero, List.set_cons_succ]
      have HT1 := Lib.hid ht1
      have HI1 := Lib.hid (HIN.out.still ht1)
      clear ht1
      go_upto_region 2 with fail
      refine wp_region_lit ?_
      refine wpList_run (v := .bool false) (wanted_none rfl) (exec_move rfl rfl) ?_
      simp only [Act.put, List.setIfInBounds_toArray, List.set_cons_zero, List.set_cons_succ]
      go_upto_region 6 with fail
      refine wp_region_lit ?_
      refine wpList_run (v := .pointer (some ⟨p, 0, none⟩)) (wanted_none rfl) (exec_move rfl rfl) ?_
      simp only [Act.put, List.setIfInBounds_toArray, List.set_cons_zero, List.set_cons_succ]
      have hw := lowest_walk (ks := ks) (HI1.out.at_ HP.out)
      rw [HL.out] at hw
      refine wpList_op rfl fun K9 HK9 => ?_
      go_wp2_with fail
      refine (hw).mono ?_
      rintro e w2 ⟨rfl, hw2⟩
      refine HK9.out _ _ ?_
      clear HK9
      try simp only [Act.put, List.setIfInBounds_toArray, List.set_cons_zero, List.set_cons_succ]
      subst hw2
      clear hw
      go_upto_region 9 with fail
      refine wp_region_lit ?_
      refine wpList_run (v := .pointer (some ⟨p, 0, none⟩)) (wanted_none rfl) (exec_move rfl rfl) ?_
      simp only [Act.put, List.setIfInBounds_toArray, List.set_cons_zero, List.set_cons_succ]
      refine wpList_run (v := .pointer (some ⟨p, 0, none⟩)) (wanted_none rfl) (exec_nil rfl rfl) ?_
      simp only [Act.put, List.setIfInBounds_toArray, List.set_cons_zero, List.set_cons_succ]
      refine wpList_run (v := .pointer (some ⟨p, 1, none⟩)) (wanted_none rfl) (exec_field (off := 0) (d := 1) rfl rfl (by kernel_rfl)) ?_
      simp only [Act.put, List.setIfInBounds_toArray, List.set_cons_zero, List.set_cons_succ]
      refine wpList_run (v := .slice (some ⟨b, 0, none⟩) n cc) (wanted_none rfl) (exec_load1 rfl rfl (by kernel_rfl) ((HI1.out.at_ HP.out).blk.cell 1)) ?_
      simp only [Act.put, List.setIfInBounds_toArray, List.set_cons_zero, List.set_cons_succ]
      refine wpList_run (v := .int .i64 (i : Int)) (wanted_none rfl) (exec_move rfl rfl) ?_
      simp only [Act.put, List.setIfInBounds_toArray, List.set_cons_zero, List.set_cons_succ]
      refine wpList_run (v := .pointer (some ⟨b, 0 + i * 1, none⟩)) (wanted_none rfl) (gx_iaddr (i := i) (sz := 1) rfl rfl rfl Try.underlying60 size_ptr HIN2.out rfl) ?_
      simp only [Act.put, List.setIfInBounds_toArray, List.set_cons_zero, List.set_cons_succ]
      refine wpList_run (v := .pointer (some ⟨x, 0, none⟩)) (wanted_none rfl) (exec_load1 rfl rfl (by kernel_rfl) (kid_cell (HI1.out.at_ HP.out) HKX.out)) ?_
      simp only [Act.put, List.setIfInBounds_toArray, List.set_cons_zero, List.set_cons_succ]
      refine wpList_run (v := strV k) (wanted_none rfl) (exec_move rfl rfl) ?_
      simp only [Act.put, List.setIfInBounds_toArray, List.set_cons_zero, List.set_cons_succ]
      refine wpList_run (v := .int .i64 v) (wanted_none rfl) (exec_move rfl rfl) ?_
      simp only [Act.put, List.setIfInBounds_toArray, List.set_cons_zero, List.set_cons_succ]
      refine wpList_run (v := .int .i64 (M : Int)) (wanted_none rfl) (exec_move rfl rfl) ?_
      simp only [Act.put, List.setIfInBounds_toArray, List.set_cons_zero, List.set_cons_succ]
      refine wpList_op rfl fun K9 HK9 => ?_
      go_wp2_with fail
      refine (HTR.out _ HT1.out).mono ?_
      rintro e w3 ⟨rfl, haf⟩
      refine HK9.out _ _ ?_
      clear HK9
      try simp only [Act.put, List.setIfInBounds_toArray, List.set_cons_zero, List.set_cons_succ]
      rw [← HCE.out] at haf
      obtain ⟨H3, G3, hx3⟩ := haf.x
      have hp3 := (hx3.off p HPX.out (Nat.lt_of_lt_of_le HPL.out HT1.out.size)).trans HP.out
      have HX3 := Lib.hid (HKD.out _ _ _ _ _ HT1.out hx3)
      obtain ⟨xk, Gx', hxi, _⟩ := hx3.tr.top
      have hkx := kid_len hx3.tr hxi HTN.out
      have hks2 : xk = [] ∨ xk.length = C.ps.length + 1 := by
        have h1 := hx3.tr
        have h2 := HTN.out
        clear HX3 HTP HKD HTR
        cases d with
        | zero => exact .inl (hxi.inj h1.1).2
        | succ d =>
          obtain ⟨ks', F', g1, g2, _⟩ := h1
          obtain ⟨_, e⟩ := hxi.inj g1
          right
          rw [e, g2.len]
          exact h2.2.2.1
      have HKS2 := Lib.hid hks2
      have HKX2 := Lib.hid hkx
      have HXI := Lib.hid hxi
      obtain ⟨vpx, vkx, hxi⟩ := hxi
      obtain ⟨Ax, cx, e9, _, _, _, _⟩ := (hx3.to.in_.at_ hxi).prs.form
      obtain ⟨nx, hnx⟩ : ∃ n, n = C.ps.length := ⟨_, rfl⟩
      replace e9 := e9.trans (show _ = Value.slice Ax nx cx from by rw [List.length_map, hnx])
      subst e9
      have HBX := Lib.hid (show Blk w3 x 62 #[.slice Ax nx cx, vkx] from (hx3.to.in_.at_ hxi).blk)
      have HI3 := Lib.hid hx3.to.in_
      have HP3 := Lib.hid hp3
      have HNX := Lib.hid hnx
      have HXG := Lib.hid hx3.tr.mem
      have HNP := Lib.hid (show p ≠ x from fun e => by
        have h3 := HX3.out.nd p
        have h4 := cnt_mem hx3.tr.mem
        rw [← e] at h4
        simp only [List.count_append, List.count_cons, beq_self_eq_true, if_true] at h3
        omega)
      have y2 : (nx : Int) ≤ 700 := by have := HTN.out.hi; have := HM7.out.1; omega
      clear haf hp3 hx3 hks2 hkx hxi hnx
      refine wpList_run (v := .tuple #[.int .i64 ((tget k c).getD 0), .bool (tget k c).isSome]) (wanted_none rfl) (exec_move rfl rfl) ?_
      simp only [Act.put, List.setIfInBounds_toArray, List.set_cons_zero, List.set_cons_succ]
      refine wpList_run (v := .int .i64 ((tget k c).getD 0)) (wanted_none rfl) (ix_extract rfl rfl rfl) ?_
      simp only [Act.put, List.setIfInBounds_toArray, List.set_cons_zero, List.set_cons_succ]
      refine wpList_run (v := .bool (tget k c).isSome) (wanted_none rfl) (ix_extract rfl rfl rfl) ?_
      simp only [Act.put, List.setIfInBounds_toArray, List.set_cons_zero, List.set_cons_succ]
      refine wpList_run (v := .int .i64 ((tget k c).getD 0)) (wanted_none rfl) (gx_assign rfl rfl) ?_
      simp only [Act.put, List.setIfInBounds_toArray, List.set_cons_zero, List.set_cons_succ]
      refine wpList_run (v := .bool (tget k c).isSome) (wanted_none rfl) (gx_assign rfl rfl) ?_
      simp only [Act.put, List.setIfInBounds_toArray, List.set_cons_zero, List.set_cons_succ]
      go_upto_region 10 with fail
      refine wp_region_lit ?_
      refine wpList_run (v := .pointer (some ⟨p, 0, none⟩)) (wanted_none rfl) (exec_move rfl rfl) ?_
      simp only [Act.put, List.setIfInBounds_toArray, List.set_cons_zero, List.set_cons_succ]
      refine wpList_run (v := .pointer (some ⟨p, 0, none⟩)) (wanted_none rfl) (exec_nil rfl rfl) ?_
      simp only [Act.put, List.setIfInBounds_toArray, List.set_cons_zero, List.set_cons_succ]
      refine wpList_run (v := .pointer (some ⟨p, 1, none⟩)) (wanted_none rfl) (exec_field (off := 0) (d := 1) rfl rfl (by kernel_rfl)) ?_
      simp only [Act.put, List.setIfInBounds_toArray, List.set_cons_zero, List.set_cons_succ]
      refine wpList_run (v := .slice (some ⟨b, 0, none⟩) n cc) (wanted_none rfl) (exec_load1 rfl rfl (by kernel_rfl) ((HI3.out.at_ HP3.out).blk.cell 1)) ?_
      simp only [Act.put, List.setIfInBounds_toArray, List.set_cons_zero, List.set_cons_succ]
      refine wpList_run (v := .int .i64 (i : Int)) (wanted_none rfl) (exec_move rfl rfl) ?_
      simp only [Act.put, List.setIfInBounds_toArray, List.set_cons_zero, List.set_cons_succ]
      refine wpList_run (v := .pointer (some ⟨b, 0 + i * 1, none⟩)) (wanted_none rfl) (gx_iaddr (i := i) (sz := 1) rfl rfl rfl Try.underlying60 size_ptr HIN2.out rfl) ?_
      simp only [Act.put, List.setIfInBounds_toArray, List.set_cons_zero, List.set_cons_succ]
      refine wpList_run (v := .pointer (some ⟨x, 0, none⟩)) (wanted_none rfl) (exec_load1 rfl rfl (by kernel_rfl) (kid_cell (HI3.out.at_ HP3.out) HKX.out)) ?_
      simp only [Act.put, List.setIfInBounds_toArray, List.set_cons_zero, List.set_cons_succ]
      refine wpList_run (v := .pointer (some ⟨x, 0, none⟩)) (wanted_none rfl) (exec_nil rfl rfl) ?_
      simp only [Act.put, List.setIfInBounds_toArray, List.set_cons_zero, List.set_cons_succ]
      refine wpList_run (v := .pointer (some ⟨x, 0, none⟩)) (wanted_none rfl) (exec_field (off := 0) (d := 0) rfl rfl (by kernel_rfl)) ?_
      simp only [Act.put, List.setIfInBounds_toArray, List.set_cons_zero, List.set_cons_succ]
      refine wpList_run (v := .slice Ax nx cx) (wanted_none rfl) (exec_load1 rfl rfl (by kernel_rfl) (HBX.out.cell 0)) ?_
      simp only [Act.put, List.setIfInBounds_toArray, List.set_cons_zero, List.set_cons_succ]
      refine wpList_run (v := .int .i64 (nx : Int)) (wanted_none rfl) (gx_len rfl rfl Try.underlying59) ?_
      simp only [Act.put, List.setIfInBounds_toArray, List.set_cons_zero, List.set_cons_succ]
      refine wpList_run (v := .int .i64 (M : Int)) (wanted_none rfl) (exec_move rfl rfl) ?_
      simp only [Act.put, List.setIfInBounds_toArray, List.set_cons_zero, List.set_cons_succ]
      by_cases hov : M < nx
      · have HE := Lib.hid (show tput k v M t = nodeT (t.1.take i ++ splitM C :: t.1.drop i) (t.2.take i ++ splitL C :: splitR C :: t.2.drop (i + 1)) from HTP.out.trans (if_pos (by rw [← HNX.out]; exact hov)))
        obtain ⟨y, hy⟩ : ∃ y, C.ps[C.ps.length / 2]? = some y := ⟨_, List.getElem?_eq_getElem (show C.ps.length / 2 < C.ps.length by have := HNX.out; omega)⟩
        have HY := Lib.hid (show splitM C = y from by unfold splitM; rw [hy]; rfl)
        have HSW := Lib.hid (split_walk HI3.out HXI.out hy (by have := HNX.out; omega) HKS2.out)
        refine wpList_run (v := .bool true) (wanted_none rfl) (ix_gtr rfl rfl rfl (decide_eq_true (by omega))) ?_
        simp only [Act.put, List.setIfInBounds_toArray, List.set_cons_zero, List.set_cons_succ]
        clear hov hy
        go_upto_region 11 with fail
        refine wp_region_lit ?_
        refine wpList_run (v := .pointer (some ⟨p, 0, none⟩)) (wanted_none rfl) (exec_move rfl rfl) ?_
        simp only [Act.put, List.setIfInBounds_toArray, List.set_cons_zero, List.set_cons_succ]
        refine wpList_run (v := .pointer (some ⟨p, 0, none⟩)) (wanted_none rfl) (exec_nil rfl rfl) ?_
        simp only [Act.put, List.setIfInBounds_toArray, List.set_cons_zero, List.set_cons_succ]
        refine wpList_run (v := .pointer (some ⟨p, 1, none⟩)) (wanted_none rfl) (exec_field (off := 0) (d := 1) rfl rfl (by kernel_rfl)) ?_
        simp only [Act.put, List.setIfInBounds_toArray, List.set_cons_zero, List.set_cons_succ]
        refine wpList_run (v := .slice (some ⟨b, 0, none⟩) n cc) (wanted_none rfl) (exec_load1 rfl rfl (by kernel_rfl) ((HI3.out.at_ HP3.out).blk.cell 1)) ?_
        simp only [Act.put, List.setIfInBounds_toArray, List.set_cons_zero, List.set_cons_succ]
        refine wpList_run (v := .int .i64 (i : Int)) (wanted_none rfl) (exec_move rfl rfl) ?_
        simp only [Act.put, List.setIfInBounds_toArray, List.set_cons_zero, List.set_cons_succ]
        refine wpList_run (v := .pointer (some ⟨b, 0 + i * 1, none⟩)) (wanted_none rfl) (gx_iaddr (i := i) (sz := 1) rfl rfl rfl Try.underlying60 size_ptr HIN2.out rfl) ?_
        simp only [Act.put, List.setIfInBounds_toArray, List.set_cons_zero, List.set_cons_succ]
        refine wpList_run (v := .pointer (some ⟨x, 0, none⟩)) (wanted_none rfl) (exec_load1 rfl rfl (by kernel_rfl) (kid_cell (HI3.out.at_ HP3.out) HKX.out)) ?_
        simp only [Act.put, List.setIfInBounds_toArray, List.set_cons_zero, List.set_cons_succ]
        refine wpList_op rfl fun K9 HK9 => ?_
        go_wp2_with fail
        refine (HSW.out).mono ?_
        rintro e w4 ⟨r, H4, rfl, hgr, hto, jx, jr, hs4⟩
        refine HK9.out _ _ ?_
        clear HK9
        try simp only [Act.put, List.setIfInBounds_toArray, List.set_cons_zero, List.set_cons_succ]
        have HRP := Lib.hid (show p ≠ r from fun e => by have := (HI3.out.at_ HP3.out).blk.lt; omega)
        have HP4 := Lib.hid ((hs4 p (by rintro (e | e); exact HNP.out e; exact HRP.out e)).trans HP3.out)
        have HT4 := Lib.hid hto
        have HJX := Lib.hid jx
        have HJR := Lib.hid jr
        have HS4 := Lib.hid hs4
        have HGR := Lib.hid hgr
        have HI4 := Lib.hid hto.in_
        clear hto jx jr hs4 hgr
        refine wpList_run (v := .tuple #[.agg (encP y).toArray, .pointer (some ⟨r, 0, none⟩)]) (wanted_none rfl) (exec_move rfl rfl) ?_
        simp only [Act.put, List.setIfInBounds_toArray, List.set_cons_zero, List.set_cons_succ]
        refine wpList_run (v := .agg (encP y).toArray) (wanted_none rfl) (ix_extract rfl rfl rfl) ?_
        simp only [Act.put, List.setIfInBounds_toArray, List.set_cons_zero, List.set_cons_succ]
        refine wpList_run (v := .pointer (some ⟨r, 0, none⟩)) (wanted_none rfl) (ix_extract rfl rfl rfl) ?_
        simp only [Act.put, List.setIfInBounds_toArray, List.set_cons_zero, List.set_cons_succ]
        refine wpList_new 65 (.tmp 15) (.tmp 93) (encP y).toArray (wanted_none rfl) rfl (zero_pair _) rfl (wanted_none rfl) rfl rfl rfl rfl (by rw [size_pair]; rfl) (fun v hv => encP_one y v (by simpa using hv)) ?_
        intro w5 g5 hge hb5 ht5
        simp only [Act.put, List.setIfInBounds_toArray, List.set_cons_zero, List.set_cons_succ]
        have HB5 := Lib.hid hb5
        have HT5 := Lib.hid ht5
        have HI5 := Lib.hid (HI4.out.still ht5)
        clear hge hb5 ht5
        refine wpList_run (v := .pointer (some ⟨r, 0, none⟩)) (wanted_none rfl) (gx_assign rfl rfl) ?_
        simp only [Act.put, List.setIfInBounds_toArray, List.set_cons_zero, List.set_cons_succ]
        go_upto_region 12 with fail
        refine wp_region_till (fun W => Blk W p 62 #[.slice A2 n0 c2, .slice (some ⟨b, 0, none⟩) n cc]) 9 (by kernel_rfl) ?_
        have HD := Lib.hid ((Turn.refl nowhere w5).drew)
        have hS0 : Blk w5.drew p 62 #[.slice A2 n0 c2, .slice (some ⟨b, 0, none⟩) n cc] := (HI5.out.at_ HP4.out).blk
        refine till_take (i := 0) (v := .pointer (some ⟨p, 0, none⟩)) rfl (by kernel_rfl) (by kernel_rfl) (fun _ _ _ h => h) (.inl ⟨by rfl, fun W hW => exec_move rfl rfl⟩) hS0 ?_
        simp only [Act.put, List.setIfInBounds_toArray, List.set_cons_zero, List.set_cons_succ]
        refine till_take (i := 1) (v := .pointer (some ⟨p, 0, none⟩)) rfl (by kernel_rfl) (by kernel_rfl) (fun _ _ _ h => h) (.inl ⟨by rfl, fun W hW => exec_move rfl rfl⟩) hS0 ?_
        simp only [Act.put, List.setIfInBounds_toArray, List.set_cons_zero, List.set_cons_succ]
        refine till_take (i := 2) (v := .pointer (some ⟨p, 0, none⟩)) rfl (by kernel_rfl) (by kernel_rfl) (fun _ _ _ h => h) (.inl ⟨by rfl, fun W hW => exec_nil rfl rfl⟩) hS0 ?_
        simp only [Act.put, List.setIfInBounds_toArray, List.set_cons_zero, List.set_cons_succ]
        refine till_take (i := 3) (v := .pointer (some ⟨p, 0, none⟩)) rfl (by kernel_rfl) (by kernel_rfl) (fun _ _ _ h => h) (.inl ⟨by rfl, fun W hW => exec_field (off := 0) (d := 0) rfl rfl (by kernel_rfl)⟩) hS0 ?_
        simp only [Act.put, List.setIfInBounds_toArray, List.set_cons_zero, List.set_cons_succ]
        refine till_take (i := 4) (v := .slice A2 n0 c2) rfl (by kernel_rfl) (by kernel_rfl) (fun _ _ _ h => h) (.inl ⟨by rfl, fun W hW => exec_load1 rfl rfl (by kernel_rfl) (hW.cell 0)⟩) hS0 ?_
        simp only [Act.put, List.setIfInBounds_toArray, List.set_cons_zero, List.set_cons_succ]
        refine till_take (i := 5) (v := .int .i64 (i : Int)) rfl (by kernel_rfl) (by kernel_rfl) (fun _ _ _ h => h) (.inl ⟨by rfl, fun W hW => exec_move rfl rfl⟩) hS0 ?_
        simp only [Act.put, List.setIfInBounds_toArray, List.set_cons_zero, List.set_cons_succ]
        refine till_step (i := 6) (by kernel_rfl) rfl rfl ?_
        intro K1 HK1
        refine wp_run (v := .agg (encP y).toArray) (gx_loads rfl rfl (blk_range HB5.out.drew) Try.underlying65 rfl (by rw [size_pair]; rfl)) ?_
        refine HK1.out _ _ ⟨fun _ => hS0, ?_⟩
        clear HK1
        simp only [Act.put, List.setIfInBounds_toArray, List.set_cons_zero, List.set_cons_succ]
        have hb2 := Blk.new w5.drew 65 (encP y).toArray
        have ht6 := (Turn.refl nowhere w5.drew).alloc (.cells (encP y).toArray 65)
        obtain ⟨g2, hg2⟩ : ∃ q, q = w5.drew.heap.size := ⟨_, rfl⟩
        have hS6 : Blk (w5.drew.alloc (.cells (encP y).toArray 65)) p 62 #[.slice A2 n0 c2, .slice (some ⟨b, 0, none⟩) n cc] := hS0.alloc _
        have hbld := build_oneP y w5.drew
        rw [← hg2] at hb2 hbld
        generalize w5.drew.alloc (.cells (encP y).toArray 65) = w6 at *
        refine till_step (i := 7) (by kernel_rfl) rfl rfl ?_
        intro K1 HK1
        refine wp_run (v := .slice (some ⟨g2, 0, none⟩) 1 1) (w' := w6) (exec_buildSlice1 rfl rfl hbld) ?_
        refine HK1.out _ _ ⟨fun _ => hS6, ?_⟩
        clear HK1
        simp only [Act.put, List.setIfInBounds_toArray, List.set_cons_zero, List.set_cons_succ]
        have HBG := Lib.hid hb2
        have HT6 := Lib.hid (HD.out.trans ht6 fun _ _ e => e)
        have HI6 := Lib.hid (HI5.out.still HT6.out)
        have HGN2 := Lib.hid (show (Value.slice A2 n0 c2).ownBlock ≠ some g2 from fun e => by
          have := (HI5.out.at_ HP4.out).prs.lt e
          have h9 : w5.drew.heap.size = w5.heap.size := rfl
          omega)
        clear hb2 ht6 hbld hg2
        refine till_step (i := 8) (by kernel_rfl) rfl rfl ?_
        intro K1 HK1
        go_wp2_with fail
        refine (InsertP (i := i) (HI6.out.at_ HP4.out).prs (by rw [List.length_map]; exact HN0.out.symm) HIN0.out HBG.out rfl (encP_one y) HGN2.out (by have := HM7.out; omega)).mono ?_
        rintro e w7 ⟨v7, rfl, hrow, hto⟩
        have hS7 : Blk w7 p 62 #[.slice A2 n0 c2, .slice (some ⟨b, 0, none⟩) n cc] := HI6.out.blkP HP4.out HP4.out hto.1
        refine HK1.out _ _ ⟨fun _ => hS7, ?_⟩
        clear HK1
        try simp only [Act.put, List.setIfInBounds_toArray, List.set_cons_zero, List.set_cons_succ]
        refine till_tail 9 rfl (by kernel_rfl) ?_
        refine wpList_run (v := .pointer (some ⟨p, 0, none⟩)) (wanted_none rfl) (exec_nil rfl rfl) ?_
        simp only [Act.put, List.setIfInBounds_toArray, List.set_cons_zero, List.set_cons_succ]
        refine wpList_run (v := .pointer (some ⟨p, 0, none⟩)) (wanted_none rfl) (exec_field (off := 0) (d := 0) rfl rfl (by kernel_rfl)) ?_
        simp only [Act.put, List.setIfInBounds_toArray, List.set_cons_zero, List.set_cons_succ]
        refine wpList_storeU 0 v7 rfl 59 _ _ rfl hS7 rfl rfl (by show 0 < 2; omega) (slice_one hrow) size_sP ?_
        intro w8 hb8 ht8
        have h24 := HI6.out.setP (ps' := t.1.take i ++ y :: t.1.drop i) HP4.out hto.1 hto.2 ht8 hb8 (by
          have h := hrow
          rw [ins_map] at h
          exact h)
        have HT8 := Lib.hid ((To.still HI4.out HT5.out).trans ((To.still HI5.out HT6.out).trans h24))
        clear hrow hto hb8 ht8 h24 hS7 hS6 hS0
        refine wpList_nil ?_
        refine NoPanic.normal ?_
        try simp only [Act.put, List.setIfInBounds_toArray, List.set_cons_zero, List.set_cons_succ]
        obtain ⟨H8, hH8⟩ : ∃ q, q = up H4 p ⟨t.1.take i ++ y :: t.1.drop i, ks, v7, .slice (some ⟨b, 0, none⟩) n cc⟩ := ⟨_, rfl⟩
        have HP8 := Lib.hid (show H8 p = some ⟨t.1.take i ++ y :: t.1.drop i, ks, v7, .slice (some ⟨b, 0, none⟩) n cc⟩ from by rw [hH8]; exact up_same _ _ _)
        have HS8 := Lib.hid (show Same H4 H8 (fun q => q = p) from by rw [hH8]; exact same_up _ _ _)
        rw [← hH8] at HT8
        clear hH8
        have HI8 := Lib.hid HT8.out.in_
        obtain ⟨i1, hi1⟩ : ∃ i1, i1 = i + 1 := ⟨_, rfl⟩
        have HI1E := Lib.hid hi1
        have z1 : (i1 : Int) ≤ (i : Int) + 1 := by omega
        have z2 : (i : Int) + 1 ≤ (i1 : Int) := by omega
        have z3 : (i1 : Int) ≤ 800 := by have := HIN2.out; have := HM7.out; omega
        clear hi1
        go_upto_region 13 with fail
        refine wp_region_lit ?_
        refine wpList_run (v := .pointer (some ⟨p, 0, none⟩)) (wanted_none rfl) (exec_move rfl rfl) ?_
        simp only [Act.put, List.setIfInBounds_toArray, List.set_cons_zero, List.set_cons_succ]
        refine wpList_run (v := .pointer (some ⟨p, 0, none⟩)) (wanted_none rfl) (exec_move rfl rfl) ?_
        simp only [Act.put, List.setIfInBounds_toArray, List.set_cons_zero, List.set_cons_succ]
        refine wpList_run (v := .pointer (some ⟨p, 0, none⟩)) (wanted_none rfl) (exec_nil rfl rfl) ?_
        simp only [Act.put, List.setIfInBounds_toArray, List.set_cons_zero, List.set_cons_succ]
        refine wpList_run (v := .pointer (some ⟨p, 1, none⟩)) (wanted_none rfl) (exec_field (off := 0) (d := 1) rfl rfl (by kernel_rfl)) ?_
        simp only [Act.put, List.setIfInBounds_toArray, List.set_cons_zero, List.set_cons_succ]
        refine wpList_run (v := .slice (some ⟨b, 0, none⟩) n cc) (wanted_none rfl) (exec_load1 rfl rfl (by kernel_rfl) ((HI8.out.at_ HP8.out).blk.cell 1)) ?_
        simp only [Act.put, List.setIfInBounds_toArray, List.set_cons_zero, List.set_cons_succ]
        refine wpList_run (v := .int .i64 (i : Int)) (wanted_none rfl) (exec_move rfl rfl) ?_
        simp only [Act.put, List.setIfInBounds_toArray, List.set_cons_zero, List.set_cons_succ]
        refine wpList_run (v := .int .i64 (i1 : Int)) (wanted_none rfl) (ix_add rfl rfl rfl (by omega) (by omega)) ?_
        simp only [Act.put, List.setIfInBounds_toArray, List.set_cons_zero, List.set_cons_succ]
        refine wpList_run (v := .pointer (some ⟨r, 0, none⟩)) (wanted_none rfl) (exec_move rfl rfl) ?_
        simp only [Act.put, List.setIfInBounds_toArray, List.set_cons_zero, List.set_cons_succ]
        have hb2 := Blk.new w8 56 (encK r).toArray
        have ht9 := (Turn.refl nowhere w8).alloc (.cells (encK r).toArray 56)
        obtain ⟨g3, hg3⟩ : ∃ q, q = w8.heap.size := ⟨_, rfl⟩
        have hbld := build_oneK r w8
        rw [← hg3] at hb2 hbld
        generalize w8.alloc (.cells (encK r).toArray 56) = w9 at *
        refine wpList_run (v := .slice (some ⟨g3, 0, none⟩) 1 1) (w' := w9) (wanted_none rfl) (exec_buildSlice1 rfl rfl hbld) ?_
        simp only [Act.put, List.setIfInBounds_toArray, List.set_cons_zero, List.set_cons_succ]
        have HBG3 := Lib.hid hb2
        have HT9 := Lib.hid ht9
        have HI9 := Lib.hid (HI8.out.still ht9)
        have HGN3 := Lib.hid (show (.slice (some ⟨b, 0, none⟩) n cc : Value).ownBlock ≠ some g3 from fun e => by
          have := (HI8.out.at_ HP8.out).kds.lt e
          omega)
        clear hb2 ht9 hbld hg3
        refine wpList_op rfl fun K9 HK9 => ?_
        go_wp2_with fail
        refine (InsertK (i := i1) (HI9.out.at_ HP8.out).kds (by rw [List.length_map]; exact HN.out.symm) (by have := HI1E.out; have := HIN2.out; omega) HBG3.out rfl (encK_one r) HGN3.out (by have := HM7.out; omega)).mono ?_
        rintro e w10 ⟨v10, rfl, hrow, hto⟩
        refine HK9.out _ _ ?_
        clear HK9
        try simp only [Act.put, List.setIfInBounds_toArray, List.set_cons_zero, List.set_cons_succ]
        have hS10 : Blk w10 p 62 #[v7, .slice (some ⟨b, 0, none⟩) n cc] := HI9.out.blkK HP8.out HP8.out hto.1
        refine wpList_run (v := .pointer (some ⟨p, 0, none⟩)) (wanted_none rfl) (exec_nil rfl rfl) ?_
        simp only [Act.put, List.setIfInBounds_toArray, List.set_cons_zero, List.set_cons_succ]
        refine wpList_run (v := .pointer (some ⟨p, 1, none⟩)) (wanted_none rfl) (exec_field (off := 0) (d := 1) rfl rfl (by kernel_rfl)) ?_
        simp only [Act.put, List.setIfInBounds_toArray, List.set_cons_zero, List.set_cons_succ]
        refine wpList_storeU 1 v10 (wanted_none rfl) 60 _ _ rfl hS10 rfl rfl (by show 1 < 2; omega) (slice_one hrow) size_sK ?_
        intro w11 hb11 ht11
        simp only [Act.put, List.setIfInBounds_toArray, List.set_cons_zero, List.set_cons_succ]
        have h24 := HI9.out.setK (ks' := ks.take i1 ++ r :: ks.drop i1) HP8.out hto.1 hto.2 ht11 hb11 (by
          have h := hrow
          rw [ins_map] at h
          exact h)
        have hto11 := HT4.out.trans (HT8.out.trans ((To.still HI8.out HT9.out).trans h24))
        have hs11 := same_up H8 p ⟨t.1.take i ++ y :: t.1.drop i, ks.take i1 ++ r :: ks.drop i1, v7, v10⟩
        have hp11 : Is (up H8 p ⟨t.1.take i ++ y :: t.1.drop i, ks.take i1 ++ r :: ks.drop i1, v7, v10⟩) p (t.1.take i ++ y :: t.1.drop i) (ks.take (i + 1) ++ r :: ks.drop (i + 1)) := ⟨v7, v10, by rw [up_same, HI1E.out]⟩
        have hsA : Same H4 (up H8 p ⟨t.1.take i ++ y :: t.1.drop i, ks.take i1 ++ r :: ks.drop i1, v7, v10⟩) (fun q => q = p) := HS8.out.trans hs11 (fun _ e => e) fun _ e => e
        have hfin := after_split (t := nodeT t.1 (t.2.set i C)) (i := i) (c := C) (ps' := t.1.take i ++ y :: t.1.drop i) HI3.out HX3.out.tr HX3.out.nd (by show (t.2.set i C)[i]? = some C; rw [List.getElem?_set_self HIL.out]) ⟨_, _, HP3.out⟩ HKX.out HXI.out HGR.out hto11 hp11
          (HJX.out.same hsA fun e => HNP.out e.symm) (HJR.out.same hsA fun e => HRP.out e.symm) (HS4.out.trans hsA (fun q e => .inr e) fun q e => .inl e)
        obtain ⟨H12, F12, hx12⟩ := hfin.x
        have HX12 := Lib.hid (HX3.out.trans hx12)
        clear hrow hto hb11 ht11 h24 hto11 hs11 hp11 hsA hfin hx12 hS10
        have HLE := Lib.hid (show nodeT (t.1.take i ++ y :: t.1.drop i) ((nodeT t.1 (t.2.set i C)).2.take i ++ splitL C :: splitR C :: (nodeT t.1 (t.2.set i C)).2.drop (i + 1)) = nodeT (t.1.take i ++ splitM C :: t.1.drop i) (t.2.take i ++ splitL C :: splitR C :: t.2.drop (i + 1)) from by
          rw [HY.out]
          show nodeT _ ((t.2.set i C).take i ++ _ :: _ :: (t.2.set i C).drop (i + 1)) = _
          rw [List.take_set_of_le (Nat.le_refl _), List.drop_set_of_lt (Nat.lt_succ_self _)])
        go_upto_region 14 with fail
        refine wp_region_lit ?_
        refine wpList_run (v := .int .i64 ((tget k c).getD 0)) (wanted_none rfl) (exec_move rfl rfl) ?_
        simp only [Act.put, List.setIfInBounds_toArray, List.set_cons_zero, List.set_cons_succ]
        refine wpList_run (v := .bool (tget k c).isSome) (wanted_none rfl) (exec_move rfl rfl) ?_
        simp only [Act.put, List.setIfInBounds_toArray, List.set_cons_zero, List.set_cons_succ]
        refine wpList_run (v := .int .i64 ((tget k c).getD 0)) (wanted_none rfl) (gx_assign rfl rfl) ?_
        simp only [Act.put, List.setIfInBounds_toArray, List.set_cons_zero, List.set_cons_succ]
        refine wpList_run (v := .bool (tget k c).isSome) (wanted_none rfl) (gx_assign rfl rfl) ?_
        simp only [Act.put, List.setIfInBounds_toArray, List.set_cons_zero, List.set_cons_succ]
        go_wp2_with fail
        go_ret2
        rw [HGN.out, HE.out, ← HLE.out]
        exact ⟨rfl, (AfterX.pre HIN.out HT1.out HX12.out).a⟩
      · have HE := Lib.hid (show tput k v M t = nodeT t.1 (t.2.set i C) from HTP.out.trans (if_neg (by rw [← HNX.out]; exact hov)))
        refine wpList_run (v := .bool false) (wanted_none rfl) (ix_gtr rfl rfl rfl (decide_eq_false (by omega))) ?_
        simp only [Act.put, List.setIfInBounds_toArray, List.set_cons_zero, List.set_cons_succ]
        clear hov
        go_upto_region 14 with fail
        refine wp_region_lit ?_
        refine wpList_run (v := .int .i64 ((tget k c).getD 0)) (wanted_none rfl) (exec_move rfl rfl) ?_
        simp only [Act.put, List.setIfInBounds_toArray, List.set_cons_zero, List.set_cons_succ]
        refine wpList_run (v := .bool (tget k c).isSome) (wanted_none rfl) (exec_move rfl rfl) ?_
        simp only [Act.put, List.setIfInBounds_toArray, List.set_cons_zero, List.set_cons_succ]
        refine wpList_run (v := .int .i64 ((tget k c).getD 0)) (wanted_none rfl) (gx_assign rfl rfl) ?_
        simp only [Act.put, List.setIfInBounds_toArray, List.set_cons_zero, List.set_cons_succ]
        refine wpList_run (v := .bool (tget k c).isSome) (wanted_none rfl) (gx_assign rfl rfl) ?_
        simp only [Act.put, List.setIfInBounds_toArray, List.set_cons_zero, List.set_cons_succ]
        go_wp2_with fail
        go_ret2
        rw [HGN.out, HE.out]
        exact ⟨rfl, (AfterX.pre HIN.out HT1.out HX3.out).a⟩
end Go.Proofs.Ytmlkdkbpbleilaa
