/-
  Index: a pair, a kid taken out of a node. No conditions.
-/
import Derived.Test.YtmlkdkbpbleilaaIxH
namespace Go.Proofs.Ytmlkdkbpbleilaa
open Go.RowKit
open Ix
set_option linter.unusedVariables false
set_option linter.unusedSimpArgs false
theorem zero_pair (w : World) : (zeroValue 65).run Try.prog w = .ok (.agg #[.string ByteArray.empty, .int .i64 0]) w := zvP w
theorem del_map {α β : Type} (f : α → β) (l : List α) (i j : Nat) : (l.map f).take i ++ (l.map f).drop j = (l.take i ++ l.drop j).map f := by rw [List.map_append, List.map_take, List.map_drop]
theorem ins_map {α β : Type} (f : α → β) (l : List α) (i : Nat) (x : α) : (l.map f).take i ++ f x :: (l.map f).drop i = (l.take i ++ x :: l.drop i).map f := by rw [List.map_append, List.map_take, List.map_cons, List.map_drop]
/-- a load out of a row: the address as it comes -/
theorem Orw.el0 {w : World} {B b k n c : Nat} {et : TypeId} {rs : List (List Value)} (h : Orw w B et k (.slice (some ⟨b, 0, none⟩) n c) rs) {i : Nat} {r : List Value} (hr : rs[i]? = some r) : w.rangeAt b (0 + i * k) r := by
  rw [Nat.zero_add]; exact h.el hr
theorem blk_ne_foot {w : World} {H : Hp} (h : In w H) {b : Nat} (hb : w.heap.size ≤ b) : ¬ foot H b := fun e => by have := h.foot_lt e; omega
set_option maxRecDepth 20000 in
set_option maxHeartbeats 1000000 in
theorem takePair_walk {w : World} {H : Hp} {p : Nat} {ps : List Pr} {ks : List Nat} {i : Nat} {x : Pr} (hin : In w H) (hp : Is H p ps ks) (hx : ps[i]? = some x) (hl : ps.length ≤ 100000) :
    Calls Try.prog 44 #[.pointer (some ⟨p, 0, none⟩), .int .i64 (i : Int)] w fun e w' => e = .returned (.agg (encP x).toArray) ∧ ∃ H', To w H w' H' ∧ Is H' p (ps.take i ++ ps.drop (i + 1)) ks ∧ Same H H' (fun q => q = p) := by
  obtain ⟨vp, vk, hp⟩ := hp
  have hn : NodeAt w p vp vk ps ks := hin.at_ hp
  have hi : i < ps.length := (List.getElem?_eq_some_iff.1 hx).1
  obtain ⟨b, c, e, hnc, hcm⟩ := hn.prs.some_ (by rw [List.length_map]; omega)
  rw [List.length_map] at e hnc
  obtain ⟨n, hnl⟩ : ∃ n, n = ps.length := ⟨_, rfl⟩
  rw [← hnl] at e hnc hi hl
  subst e
  have hb0 := Blk.new w 65 #[.string ⟨#[]⟩, .int .i64 0]
  have hu0 := (Turn.refl nowhere w).alloc (.cells #[.string ⟨#[]⟩, .int .i64 0] 65)
  have HIN := Lib.hid hin
  have HP := Lib.hid hp
  have HX := Lib.hid hx
  have HLT := Lib.hid hi
  have HL := Lib.hid hl
  have HNL := Lib.hid hnl
  have y1 : (i : Int) < (n : Int) := by omega
  have y2 : (n : Int) ≤ 100000 := by omega
  clear hin hp hx hi hl hnl hn hnc hcm
  go_enter Try.func44, Try.ntmps44
  go_upto_region 1 with fail
  obtain ⟨b0, hg0⟩ : ∃ g, g = w.heap.size := ⟨_, rfl⟩
  rw [← hg0] at hb0 ⊢
  have HG0 := Lib.hid hg0
  clear hg0
  generalize w.alloc (.cells #[.string ⟨#[]⟩, .int .i64 0] 65) = w1 at *
  have HB0 := Lib.hid hb0
  have HT1 := Lib.hid hu0
  have HI1 := Lib.hid (HIN.out.still hu0)
  clear hb0 hu0
  have HN1 := Lib.hid (show NodeAt w1 p (.slice (some ⟨b, 0, none⟩) n c) vk ps ks from HI1.out.at_ HP.out)
  refine wp_region_lit ?_
  refine wpList_run (v := .pointer (some ⟨p, 0, none⟩)) rfl (exec_move rfl rfl) ?_
  simp only [Act.put, List.setIfInBounds_toArray, List.set_cons_zero, List.set_cons_succ]
  refine wpList_run (v := .pointer (some ⟨p, 0, none⟩)) rfl (exec_nil rfl rfl) ?_
  simp only [Act.put, List.setIfInBounds_toArray, List.set_cons_zero, List.set_cons_succ]
  refine wpList_run (v := .pointer (some ⟨p, 0, none⟩)) rfl (exec_field (off := 0) (d := 0) rfl rfl (by kernel_rfl)) ?_
  simp only [Act.put, List.setIfInBounds_toArray, List.set_cons_zero, List.set_cons_succ]
  refine wpList_run (v := .slice (some ⟨b, 0, none⟩) n c) rfl (exec_load1 rfl rfl (by kernel_rfl) (HN1.out.blk.cell 0)) ?_
  simp only [Act.put, List.setIfInBounds_toArray, List.set_cons_zero, List.set_cons_succ]
  refine wpList_run (v := .int .i64 (i : Int)) rfl (exec_move rfl rfl) ?_
  simp only [Act.put, List.setIfInBounds_toArray, List.set_cons_zero, List.set_cons_succ]
  refine wpList_run (v := .pointer (some ⟨b, 0 + i * 2, none⟩)) rfl (gx_iaddr (i := i) (sz := 2) rfl rfl rfl Try.underlying59 size_pair HLT.out rfl) ?_
  simp only [Act.put, List.setIfInBounds_toArray, List.set_cons_zero, List.set_cons_succ]
  refine wpList_run (v := .agg (encP x).toArray) rfl (gx_loads rfl rfl (HN1.out.prs.el0 (by rw [List.getElem?_map, HX.out]; rfl)) Try.underlying65 rfl (by rw [size_pair]; rfl)) ?_
  simp only [Act.put, List.setIfInBounds_toArray, List.set_cons_zero, List.set_cons_succ]
  refine wpList_new 65 (.tmp 5) (.tmp 12) (encP x).toArray rfl rfl (zero_pair _) rfl rfl rfl rfl rfl rfl (by rw [size_pair]; rfl) (fun v hv => encP_one x v (by simpa using hv)) ?_
  intro w2 g5 hge hb5 ht2
  simp only [Act.put, List.setIfInBounds_toArray, List.set_cons_zero, List.set_cons_succ]
  have HB5 := Lib.hid hb5
  have HT2 := Lib.hid ht2
  have HG5 := Lib.hid (show w.heap.size ≤ g5 from Nat.le_trans HT1.out.size hge)
  have HI2 := Lib.hid (HI1.out.still ht2)
  have HG05 := Lib.hid (show b0 ≠ g5 from by have := HB0.out.lt; omega)
  have HN2 := Lib.hid (show NodeAt w2 p (.slice (some ⟨b, 0, none⟩) n c) vk ps ks from HI2.out.at_ HP.out)
  clear hb5 ht2 hge
  go_upto_region 2 with fail
  refine wp_region_lit ?_
  refine wpList_run (v := .pointer (some ⟨p, 0, none⟩)) rfl (exec_move rfl rfl) ?_
  simp only [Act.put, List.setIfInBounds_toArray, List.set_cons_zero, List.set_cons_succ]
  refine wpList_run (v := .pointer (some ⟨p, 0, none⟩)) rfl (exec_move rfl rfl) ?_
  simp only [Act.put, List.setIfInBounds_toArray, List.set_cons_zero, List.set_cons_succ]
  refine wpList_run (v := .pointer (some ⟨p, 0, none⟩)) rfl (exec_nil rfl rfl) ?_
  simp only [Act.put, List.setIfInBounds_toArray, List.set_cons_zero, List.set_cons_succ]
  refine wpList_run (v := .pointer (some ⟨p, 0, none⟩)) rfl (exec_field (off := 0) (d := 0) rfl rfl (by kernel_rfl)) ?_
  simp only [Act.put, List.setIfInBounds_toArray, List.set_cons_zero, List.set_cons_succ]
  refine wpList_run (v := .slice (some ⟨b, 0, none⟩) n c) rfl (exec_load1 rfl rfl (by kernel_rfl) (HN2.out.blk.cell 0)) ?_
  simp only [Act.put, List.setIfInBounds_toArray, List.set_cons_zero, List.set_cons_succ]
  refine wpList_run (v := .int .i64 (i : Int)) rfl (exec_move rfl rfl) ?_
  simp only [Act.put, List.setIfInBounds_toArray, List.set_cons_zero, List.set_cons_succ]
  refine wpList_run (v := .int .i64 (i : Int)) rfl (exec_move rfl rfl) ?_
  simp only [Act.put, List.setIfInBounds_toArray, List.set_cons_zero, List.set_cons_succ]
  refine wpList_run (v := .int .i64 ((i + 1 : Nat) : Int)) rfl (ix_add rfl rfl rfl (by omega) (by omega)) ?_
  simp only [Act.put, List.setIfInBounds_toArray, List.set_cons_zero, List.set_cons_succ]
  refine wpList_op rfl fun K9 HK9 => ?_
  go_wp2_with fail
  refine (DeleteP (i := i) (j := i + 1) HN2.out.prs (by rw [List.length_map]; exact HNL.out.symm) (by omega) HLT.out HL.out).mono ?_
  rintro e w3 ⟨v', rfl, hrow, hto⟩
  refine HK9.out _ _ ?_
  clear HK9
  try simp only [Act.put, List.setIfInBounds_toArray, List.set_cons_zero, List.set_cons_succ]
  have HROW := Lib.hid hrow
  have HTO := Lib.hid hto
  have hblk3 : Blk w3 p 62 #[.slice (some ⟨b, 0, none⟩) n c, vk] := HN2.out.blk.turn hto.1 fun e => HN2.out.prs.ne HN2.out.blk (by decide) _ e rfl
  have HBK3 := Lib.hid hblk3
  clear hrow hto hblk3
  refine wpList_run (v := .pointer (some ⟨p, 0, none⟩)) rfl (exec_nil rfl rfl) ?_
  simp only [Act.put, List.setIfInBounds_toArray, List.set_cons_zero, List.set_cons_succ]
  refine wpList_run (v := .pointer (some ⟨p, 0, none⟩)) rfl (exec_field (off := 0) (d := 0) rfl rfl (by kernel_rfl)) ?_
  simp only [Act.put, List.setIfInBounds_toArray, List.set_cons_zero, List.set_cons_succ]
  refine wpList_storeU 0 v' rfl 59 _ _ rfl HBK3.out rfl rfl (by show 0 < 2; omega) (slice_one HROW.out) size_sP ?_
  intro w4 hb4 ht4
  simp only [Act.put, List.setIfInBounds_toArray, List.set_cons_zero, List.set_cons_succ]
  have hto := HI2.out.setP (ps' := ps.take i ++ ps.drop (i + 1)) HP.out HTO.out.1 HTO.out.2 ht4 hb4 (by have h := HROW.out; rw [del_map] at h; exact h)
  have HTO4 := Lib.hid hto
  have hnew : ∀ g, w.heap.size ≤ g → g < w2.heap.size → ∀ k, (k = p ∨ (Value.slice (some ⟨b, 0, none⟩) n c).ownBlock = some k) → k ≠ g := fun g hg hg2 k hk e => by
    subst e
    have h1 := HIN.out.foot_lt (b := k) ⟨p, _, HP.out, by rcases hk with rfl | hk; exact .inl rfl; exact .inr (.inl hk)⟩
    omega
  have hkeep : ∀ {g : Nat} {t : TypeId} {cs : Array Value}, w.heap.size ≤ g → Blk w2 g t cs → Blk w4 g t cs := fun hg hb => (hb.turn HTO.out.1 fun e => hnew _ hg hb.lt _ (.inr e) rfl).turn ht4 fun e => hnew _ hg hb.lt _ (.inl rfl) (show _ = _ from e.symm ▸ rfl)
  have HK0 := Lib.hid (hkeep (by rw [← HG0.out]; exact Nat.le_refl _) (HB0.out.turn HT2.out fun e => e))
  have HK5 := Lib.hid (hkeep HG5.out HB5.out)
  clear hto hnew hkeep hb4
  have HT4 := Lib.hid ht4
  clear ht4
  go_upto_region 3 with fail
  refine wp_region_lit ?_
  refine wpList_run (v := .agg (encP x).toArray) rfl (gx_loads rfl rfl (blk_range HK5.out) Try.underlying65 rfl (by rw [size_pair]; rfl)) ?_
  simp only [Act.put, List.setIfInBounds_toArray, List.set_cons_zero, List.set_cons_succ]
  refine wpList_store_row rfl 65 (.tmp 4) (.tmp 24) rfl (encP x).toArray HK0.out rfl rfl rfl (by rw [size_pair]; rfl) (fun v hv => encP_one x v (by simpa using hv)) ?_
  intro w5 hb5 ht5
  simp only [Act.put, List.setIfInBounds_toArray, List.set_cons_zero, List.set_cons_succ]
  have HE := Lib.hid hb5
  have HT5 := Lib.hid ht5
  clear hb5 ht5
  go_wp2_with fail
  refine bodyPost_ret (v := .agg (encP x).toArray) (results_cell_row rfl _ _ b0 65 _ (0, 0) _ rfl HE.out Try.underlying65 rfl size_pair) rfl ⟨rfl, _, ?_, Is.up_ H p ⟨ps.take i ++ ps.drop (i + 1), ks, v', vk⟩, same_up _ _ _⟩
  have h1 := (To.still HIN.out (HT1.out.trans HT2.out fun _ _ e => e)).trans HTO4.out
  have hnf : ∀ k, only b0 k → ¬ foot (up H p ⟨ps.take i ++ ps.drop (i + 1), ks, v', vk⟩) k := fun k e hf => by
    have e : k = b0 := e
    subst e
    rcases HTO4.out.foot _ hf with h | h
    · exact blk_ne_foot HIN.out (by rw [HG0.out]; exact Nat.le_refl _) h
    · have := HB0.out.lt
      have := HT2.out.size
      omega
  refine ⟨h1.in_.turn HT5.out hnf, h1.turn.trans HT5.out (fun k hk e => ?_), h1.foot⟩
  have e : k = b0 := e
  have := HG0.out
  omega
theorem kid_cell {w : World} {p : Nat} {vp : Value} {b n c : Nat} {ps : List Pr} {ks : List Nat} (h : NodeAt w p vp (.slice (some ⟨b, 0, none⟩) n c) ps ks) {i k : Nat} (hk : ks[i]? = some k) : w.cell? ⟨b, 0 + i * 1, none⟩ = some (.pointer (some ⟨k, 0, none⟩)) := by
  have := h.kds.el0 (i := i) (r := encK k) (by rw [List.getElem?_map, hk]; rfl) 0 (.pointer (some ⟨k, 0, none⟩)) rfl
  simpa using this
set_option maxRecDepth 20000 in
set_option maxHeartbeats 1000000 in
theorem takeKid_walk {w : World} {H : Hp} {p : Nat} {ps : List Pr} {ks : List Nat} {i x : Nat} (hin : In w H) (hp : Is H p ps ks) (hx : ks[i]? = some x) (hl : ks.length ≤ 100000) :
    Calls Try.prog 61 #[.pointer (some ⟨p, 0, none⟩), .int .i64 (i : Int)] w fun e w' => e = .returned (.pointer (some ⟨x, 0, none⟩)) ∧ ∃ H', To w H w' H' ∧ Is H' p ps (ks.take i ++ ks.drop (i + 1)) ∧ Same H H' (fun q => q = p) := by
  obtain ⟨vp, vk, hp⟩ := hp
  have hn : NodeAt w p vp vk ps ks := hin.at_ hp
  have hi : i < ks.length := (List.getElem?_eq_some_iff.1 hx).1
  obtain ⟨b, c, e, hnc, hcm⟩ := hn.kds.some_ (by rw [List.length_map]; omega)
  rw [List.length_map] at e hnc
  obtain ⟨n, hnl⟩ : ∃ n, n = ks.length := ⟨_, rfl⟩
  rw [← hnl] at e hnc hi hl
  subst e
  have HIN := Lib.hid hin
  have HP := Lib.hid hp
  have HX := Lib.hid hx
  have HLT := Lib.hid hi
  have HL := Lib.hid hl
  have HNL := Lib.hid hnl
  have HN := Lib.hid hn
  have y1 : (i : Int) < (n : Int) := by omega
  have y2 : (n : Int) ≤ 100001 := by omega
  clear hin hp hx hi hl hnl hn hnc hcm
  go_enter Try.func61, Try.ntmps61
  go_upto_region 1 with fail
  refine wp_region_lit ?_
  refine wpList_run (v := .pointer (some ⟨p, 0, none⟩)) rfl (exec_move rfl rfl) ?_
  simp only [Act.put, List.setIfInBounds_toArray, List.set_cons_zero, List.set_cons_succ]
  refine wpList_run (v := .pointer (some ⟨p, 0, none⟩)) rfl (exec_nil rfl rfl) ?_
  simp only [Act.put, List.setIfInBounds_toArray, List.set_cons_zero, List.set_cons_succ]
  refine wpList_run (v := .pointer (some ⟨p, 1, none⟩)) rfl (exec_field (off := 0) (d := 1) rfl rfl (by kernel_rfl)) ?_
  simp only [Act.put, List.setIfInBounds_toArray, List.set_cons_zero, List.set_cons_succ]
  refine wpList_run (v := .slice (some ⟨b, 0, none⟩) n c) rfl (exec_load1 rfl rfl (by kernel_rfl) (HN.out.blk.cell 1)) ?_
  simp only [Act.put, List.setIfInBounds_toArray, List.set_cons_zero, List.set_cons_succ]
  refine wpList_run (v := .int .i64 (i : Int)) rfl (exec_move rfl rfl) ?_
  simp only [Act.put, List.setIfInBounds_toArray, List.set_cons_zero, List.set_cons_succ]
  refine wpList_run (v := .pointer (some ⟨b, 0 + i * 1, none⟩)) rfl (gx_iaddr (i := i) (sz := 1) rfl rfl rfl Try.underlying60 size_ptr HLT.out rfl) ?_
  simp only [Act.put, List.setIfInBounds_toArray, List.set_cons_zero, List.set_cons_succ]
  refine wpList_run (v := .pointer (some ⟨x, 0, none⟩)) rfl (exec_load1 rfl rfl (by kernel_rfl) (kid_cell HN.out HX.out)) ?_
  simp only [Act.put, List.setIfInBounds_toArray, List.set_cons_zero, List.set_cons_succ]
  refine wpList_run (v := .pointer (some ⟨x, 0, none⟩)) rfl (gx_assign rfl rfl) ?_
  simp only [Act.put, List.setIfInBounds_toArray, List.set_cons_zero, List.set_cons_succ]
  go_upto_region 2 with fail
  refine wp_region_lit ?_
  refine wpList_run (v := .pointer (some ⟨p, 0, none⟩)) rfl (exec_move rfl rfl) ?_
  simp only [Act.put, List.setIfInBounds_toArray, List.set_cons_zero, List.set_cons_succ]
  refine wpList_run (v := .pointer (some ⟨p, 0, none⟩)) rfl (exec_move rfl rfl) ?_
  simp only [Act.put, List.setIfInBounds_toArray, List.set_cons_zero, List.set_cons_succ]
  refine wpList_run (v := .pointer (some ⟨p, 0, none⟩)) rfl (exec_nil rfl rfl) ?_
  simp only [Act.put, List.setIfInBounds_toArray, List.set_cons_zero, List.set_cons_succ]
  refine wpList_run (v := .pointer (some ⟨p, 1, none⟩)) rfl (exec_field (off := 0) (d := 1) rfl rfl (by kernel_rfl)) ?_
  simp only [Act.put, List.setIfInBounds_toArray, List.set_cons_zero, List.set_cons_succ]
  refine wpList_run (v := .slice (some ⟨b, 0, none⟩) n c) rfl (exec_load1 rfl rfl (by kernel_rfl) (HN.out.blk.cell 1)) ?_
  simp only [Act.put, List.setIfInBounds_toArray, List.set_cons_zero, List.set_cons_succ]
  refine wpList_run (v := .int .i64 (i : Int)) rfl (exec_move rfl rfl) ?_
  simp only [Act.put, List.setIfInBounds_toArray, List.set_cons_zero, List.set_cons_succ]
  refine wpList_run (v := .int .i64 (i : Int)) rfl (exec_move rfl rfl) ?_
  simp only [Act.put, List.setIfInBounds_toArray, List.set_cons_zero, List.set_cons_succ]
  refine wpList_run (v := .int .i64 ((i + 1 : Nat) : Int)) rfl (ix_add rfl rfl rfl (by omega) (by omega)) ?_
  simp only [Act.put, List.setIfInBounds_toArray, List.set_cons_zero, List.set_cons_succ]
  refine wpList_op rfl fun K9 HK9 => ?_
  go_wp2_with fail
  refine (DeleteK (i := i) (j := i + 1) HN.out.kds (by rw [List.length_map]; exact HNL.out.symm) (by omega) HLT.out HL.out).mono ?_
  rintro e w3 ⟨v', rfl, hrow, hto⟩
  refine HK9.out _ _ ?_
  clear HK9
  try simp only [Act.put, List.setIfInBounds_toArray, List.set_cons_zero, List.set_cons_succ]
  have HROW := Lib.hid hrow
  have HTO := Lib.hid hto
  have hblk3 : Blk w3 p 62 #[vp, .slice (some ⟨b, 0, none⟩) n c] := HN.out.blk.turn hto.1 fun e => HN.out.kds.ne HN.out.blk (by decide) _ e rfl
  have HBK3 := Lib.hid hblk3
  clear hrow hto hblk3
  refine wpList_run (v := .pointer (some ⟨p, 0, none⟩)) rfl (exec_nil rfl rfl) ?_
  simp only [Act.put, List.setIfInBounds_toArray, List.set_cons_zero, List.set_cons_succ]
  refine wpList_run (v := .pointer (some ⟨p, 1, none⟩)) rfl (exec_field (off := 0) (d := 1) rfl rfl (by kernel_rfl)) ?_
  simp only [Act.put, List.setIfInBounds_toArray, List.set_cons_zero, List.set_cons_succ]
  refine wpList_storeU 1 v' rfl 60 _ _ rfl HBK3.out rfl rfl (by show 1 < 2; omega) (slice_one HROW.out) size_sK ?_
  intro w4 hb4 ht4
  simp only [Act.put, List.setIfInBounds_toArray, List.set_cons_zero, List.set_cons_succ]
  have HTO4 := Lib.hid (HIN.out.setK (ks' := ks.take i ++ ks.drop (i + 1)) HP.out HTO.out.1 HTO.out.2 ht4 hb4 (by have h := HROW.out; rw [del_map] at h; exact h))
  clear hb4 ht4
  go_upto_region 3 with fail
  refine wp_region_lit ?_
  refine wpList_run (v := .pointer (some ⟨x, 0, none⟩)) rfl (exec_move rfl rfl) ?_
  simp only [Act.put, List.setIfInBounds_toArray, List.set_cons_zero, List.set_cons_succ]
  refine wpList_run (v := .pointer (some ⟨x, 0, none⟩)) rfl (gx_assign rfl rfl) ?_
  simp only [Act.put, List.setIfInBounds_toArray, List.set_cons_zero, List.set_cons_succ]
  go_wp2_with fail
  go_ret
  exact ⟨rfl, _, HTO4.out, Is.up_ H p ⟨ps, ks.take i ++ ks.drop (i + 1), vp, v'⟩, same_up _ _ _⟩
theorem only_none {w : World} {H : Hp} {p : Nat} {ps : List Pr} (hin : In w H) (hp : Is H p ps []) :
    Calls Try.prog 30 #[.pointer (some ⟨p, 0, none⟩)] w fun e w' => e = .returned (.pointer none) ∧ w' = w := by
  obtain ⟨vp, vk, hp⟩ := hp
  have HN := Lib.hid (show NodeAt w p vp vk ps [] from hin.at_ hp)
  clear hin hp
  go_enter Try.func30, Try.ntmps30
  go_upto_region 1 with fail
  refine wp_region_lit ?_
  refine wpList_run (v := .pointer (some ⟨p, 0, none⟩)) rfl (exec_move rfl rfl) ?_
  simp only [Act.put, List.setIfInBounds_toArray, List.set_cons_zero, List.set_cons_succ]
  refine wpList_op rfl fun K9 HK9 => ?_
  go_wp2_with fail
  refine (lowest_walk HN.out).mono ?_
  rintro e w1 ⟨rfl, rfl⟩
  refine HK9.out _ _ ?_
  clear HK9
  try simp only [Act.put, List.setIfInBounds_toArray, List.set_cons_zero, List.set_cons_succ]
  go_wp2_with fail
  go_ret
  exact ⟨rfl, rfl⟩
theorem only_kid {w : World} {H : Hp} {p : Nat} {ps : List Pr} {ks : List Nat} {x : Nat} (hin : In w H) (hp : Is H p ps ks) (hx : ks[0]? = some x) :
    Calls Try.prog 30 #[.pointer (some ⟨p, 0, none⟩)] w fun e w' => e = .returned (.pointer (some ⟨x, 0, none⟩)) ∧ w' = w := by
  obtain ⟨i, h0⟩ : ∃ i, i = 0 := ⟨0, rfl⟩
  rw [← h0] at hx
  obtain ⟨vp, vk, hp⟩ := hp
  have hn : NodeAt w p vp vk ps ks := hin.at_ hp
  have hi : i < ks.length := (List.getElem?_eq_some_iff.1 hx).1
  obtain ⟨b, c, e, hnc, hcm⟩ := hn.kds.some_ (by rw [List.length_map]; omega)
  rw [List.length_map] at e
  obtain ⟨n, hnl⟩ : ∃ n, n = ks.length := ⟨_, rfl⟩
  rw [← hnl] at e hi
  subst e h0
  have HX := Lib.hid hx
  have HLT := Lib.hid hi
  have HN := Lib.hid hn
  have hd : decide (ks = []) = false := by
    cases ks with
    | nil => cases hx
    | cons _ _ => rfl
  have HD := Lib.hid hd
  clear hin hp hx hi hnl hn hnc hcm hd
  go_enter Try.func30, Try.ntmps30
  go_upto_region 1 with fail
  refine wp_region_lit ?_
  refine wpList_run (v := .pointer (some ⟨p, 0, none⟩)) rfl (exec_move rfl rfl) ?_
  simp only [Act.put, List.setIfInBounds_toArray, List.set_cons_zero, List.set_cons_succ]
  have hw := lowest_walk HN.out
  rw [HD.out] at hw
  refine wpList_op rfl fun K9 HK9 => ?_
  go_wp2_with fail
  refine (hw).mono ?_
  rintro e w1 ⟨rfl, rfl⟩
  refine HK9.out _ _ ?_
  clear HK9
  try simp only [Act.put, List.setIfInBounds_toArray, List.set_cons_zero, List.set_cons_succ]
  clear hw
  go_upto_region 3 with fail
  refine wp_region_lit ?_
  refine wpList_run (v := .pointer (some ⟨p, 0, none⟩)) rfl (exec_move rfl rfl) ?_
  simp only [Act.put, List.setIfInBounds_toArray, List.set_cons_zero, List.set_cons_succ]
  refine wpList_run (v := .pointer (some ⟨p, 0, none⟩)) rfl (exec_nil rfl rfl) ?_
  simp only [Act.put, List.setIfInBounds_toArray, List.set_cons_zero, List.set_cons_succ]
  refine wpList_run (v := .pointer (some ⟨p, 1, none⟩)) rfl (exec_field (off := 0) (d := 1) rfl rfl (by kernel_rfl)) ?_
  simp only [Act.put, List.setIfInBounds_toArray, List.set_cons_zero, List.set_cons_succ]
  refine wpList_run (v := .slice (some ⟨b, 0, none⟩) n c) rfl (exec_load1 rfl rfl (by kernel_rfl) (HN.out.blk.cell 1)) ?_
  simp only [Act.put, List.setIfInBounds_toArray, List.set_cons_zero, List.set_cons_succ]
  refine wpList_run (v := .pointer (some ⟨b, 0 + 0 * 1, none⟩)) rfl (gx_iaddr (i := 0) (sz := 1) rfl rfl rfl Try.underlying60 size_ptr HLT.out rfl) ?_
  simp only [Act.put, List.setIfInBounds_toArray, List.set_cons_zero, List.set_cons_succ]
  refine wpList_run (v := .pointer (some ⟨x, 0, none⟩)) rfl (exec_load1 rfl rfl (by kernel_rfl) (kid_cell HN.out HX.out)) ?_
  simp only [Act.put, List.setIfInBounds_toArray, List.set_cons_zero, List.set_cons_succ]
  refine wpList_run (v := .pointer (some ⟨x, 0, none⟩)) rfl (gx_assign rfl rfl) ?_
  simp only [Act.put, List.setIfInBounds_toArray, List.set_cons_zero, List.set_cons_succ]
  go_wp2_with fail
  go_ret
  exact ⟨rfl, rfl⟩
end Go.Proofs.Ytmlkdkbpbleilaa
