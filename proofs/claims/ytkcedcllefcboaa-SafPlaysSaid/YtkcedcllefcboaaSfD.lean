/-
  saf: Again, Send, Done: the walks. No conditions.
-/
import Derived.Test.YtkcedcllefcboaaSfC
namespace Go.Proofs.Ytkcedcllefcboaa
open Go.RowKit
set_option linter.unusedVariables false
set_option linter.unusedSimpArgs false
set_option maxRecDepth 20000
/-- three results, the second one in a cell -/
theorem ret_cell3 {P : Program} {fn : Func} {p u v : Tmp} {ty : TypeId} (h : fn.results = #[.tmp u, .cell p ty, .tmp v]) (tmps : Array Value) (w : World) (g : Nat) (t : TypeId) (cs : Array Value) (d : TypeDesc) {x y : Value}
    (hp : tmps.getD p undef = .pointer (some ⟨g, 0, none⟩)) (hx : tmps.getD u undef = x) (hy : tmps.getD v undef = y) (hg : Blk w g t cs) (hu : P.underlying ty = some d) (hd : (match d with | .struct _ | .array _ _ => true | _ => false) = true) (hi : (P.info? ty).map (·.size) = some cs.size) :
    (results fn tmps).run P w = .ok (.tuple #[x, .agg cs, y]) w := by
  subst hx hy
  have hp' : tmps[p]?.getD undef = .pointer (some ⟨g, 0, none⟩) := by simpa using hp
  simp only [results, h]
  simp [Sem.run_bind, Result.andThen, hp', asAddr, run_loadVar_row w g t ty cs (0, 0) d hg hu hd hi]
theorem build_m0 (W : World) : (Instr.build 35 #[]).run Try.prog W = .ok (.agg #[.int .i64 0, .slice none 0 0]) W := by kernel_rfl
/-- nothing, and false -/
def noneE : Ending := .returned (.tuple #[strV [], .agg #[.int .i64 0, .slice none 0 0], .bool false])
/-- the first one, and true -/
def SomeE (w : World) (x : Adv) (e : Ending) (w' : World) : Prop := ∃ g : Nat, e = .returned (.tuple #[strV x.1, .agg #[.int .i64 x.2.1, .slice (some ⟨g, 0, none⟩) x.2.2.length x.2.2.length], .bool true]) ∧ w.heap.size ≤ g ∧ Fr w' w.heap.size (.slice (some ⟨g, 0, none⟩) x.2.2.length x.2.2.length) x.2.2
set_option maxRecDepth 20000 in
set_option maxHeartbeats 4000000 in
theorem Again_no {w : World} {Z : Nat → Prop} {a m : Nat} {g : Option Nat} {l : List Adv} (q : Que w Z a g m l false) : Calls Try.prog 14 #[.pointer (some ⟨a, 0, none⟩)] w fun e w' => e = noneE ∧ Turn nowhere w w' := by
  obtain ⟨⟨A, c, xs, hb, hr, hg, hx, hz⟩, hlen, hmax, hway⟩ := q
  obtain ⟨n, hn⟩ : ∃ n, n = l.length := ⟨_, rfl⟩
  rw [← hn] at hb hr hg hlen
  have hxl : xs.length = n := by rw [hn, ← hx, List.length_map]
  have HB := Lib.hid hb
  clear hb hr hg hx hz hlen hmax hway hn hxl
  go_enter Try.func14, Try.ntmps14
  go_upto_region 0 with fail
  refine wp_region_lit ?_
  refine wpList_run (v := strV []) (wanted_none rfl) (gx_assign rfl rfl) ?_
  simp only [Act.put, List.setIfInBounds_toArray, List.set_cons_zero, List.set_cons_succ]
  refine wpList_run (v := .pointer (some ⟨w.heap.size, 0, none⟩)) (w' := w.alloc (.cells #[.int .i64 0, .slice none 0 0] 35)) (wanted_none rfl) (gx_alloc rfl (zero_msg _)) ?_
  simp only [Act.put, List.setIfInBounds_toArray, List.set_cons_zero, List.set_cons_succ]
  have hb_ := Blk.new w 35 #[.int .i64 0, .slice none 0 0]
  have ht_ := (Turn.refl nowhere w).alloc (.cells #[.int .i64 0, .slice none 0 0] 35)
  obtain ⟨r, hg_⟩ : ∃ g, g = w.heap.size := ⟨_, rfl⟩
  rw [← hg_] at hb_ ⊢
  have HLr := Lib.hid (show w.heap.size ≤ r from by omega)
  clear hg_
  generalize w.alloc (.cells #[.int .i64 0, .slice none 0 0] 35) = w1 at *
  have HBr := Lib.hid hb_
  have HT1 := Lib.hid ht_
  clear hb_ ht_
  refine wpList_run (v := .bool false) (wanted_none rfl) (gx_assign rfl rfl) ?_
  simp only [Act.put, List.setIfInBounds_toArray, List.set_cons_zero, List.set_cons_succ]
  have HB1 := Lib.hid (HB.out.turn HT1.out fun e => e)
  go_upto_region 1 with fail
  refine wp_region_lit ?_
  refine wpList_run (v := .pointer (some ⟨a, 0, none⟩)) (wanted_none rfl) (exec_move rfl rfl) ?_
  simp only [Act.put, List.setIfInBounds_toArray, List.set_cons_zero, List.set_cons_succ]
  refine wpList_run (v := .pointer (some ⟨a, 0, none⟩)) (wanted_none rfl) (exec_nil rfl rfl) ?_
  simp only [Act.put, List.setIfInBounds_toArray, List.set_cons_zero, List.set_cons_succ]
  refine wpList_run (v := .pointer (some ⟨a, 2, none⟩)) (wanted_none rfl) (exec_field (off := 0) (d := 2) rfl rfl (by kernel_rfl)) ?_
  simp only [Act.put, List.setIfInBounds_toArray, List.set_cons_zero, List.set_cons_succ]
  refine wpList_run (v := .bool false) (wanted_none rfl) (exec_load1 rfl rfl (by kernel_rfl) (HB1.out.cell 2)) ?_
  simp only [Act.put, List.setIfInBounds_toArray, List.set_cons_zero, List.set_cons_succ]
  refine wpList_run (v := .bool true) (wanted_none rfl) (ix_not (b := false) rfl rfl) ?_
  simp only [Act.put, List.setIfInBounds_toArray, List.set_cons_zero, List.set_cons_succ]
  go_upto_region 2 with fail
  refine wp_region_lit ?_
  refine wpList_run (v := .agg #[.int .i64 0, .slice none 0 0]) (wanted_none rfl) (gx_build0 rfl (build_m0 _)) ?_
  simp only [Act.put, List.setIfInBounds_toArray, List.set_cons_zero, List.set_cons_succ]
  refine wpList_run (v := strV []) (wanted_none rfl) (gx_assign rfl rfl) ?_
  simp only [Act.put, List.setIfInBounds_toArray, List.set_cons_zero, List.set_cons_succ]
  refine wpList_store_row (wanted_none rfl) 35 (.tmp 3) (.tmp 11) rfl (#[.int .i64 0, .slice none 0 0]) HBr.out rfl rfl (rfl) (by rw [size_msg] <;> rfl) (msgA_one _ _ _ _) ?_
  intro w2 hb_ ht_
  have HBr2 := Lib.hid hb_
  have HT2 := Lib.hid ht_
  clear hb_ ht_
  simp only [Act.put, List.setIfInBounds_toArray, List.set_cons_zero, List.set_cons_succ]
  refine wpList_run (v := .bool false) (wanted_none rfl) (gx_assign rfl rfl) ?_
  simp only [Act.put, List.setIfInBounds_toArray, List.set_cons_zero, List.set_cons_succ]
  go_wp2_with fail
  refine bodyPost_ret (v := .tuple #[strV [], .agg #[.int .i64 0, .slice none 0 0], .bool false]) (ret_cell3 rfl _ _ r _ _ _ rfl rfl rfl HBr2.out Try.underlying35 rfl (by rw [size_msg] <;> rfl)) rfl ?_
  exact ⟨rfl, newer HT1.out HLr.out HT2.out⟩
set_option maxRecDepth 20000 in
set_option maxHeartbeats 4000000 in
theorem Again_yes {w : World} {Z : Nat → Prop} {a m : Nat} {g : Option Nat} {y : Adv} {r' : List Adv} (q : Que w Z a g m (y :: r') true) : Calls Try.prog 14 #[.pointer (some ⟨a, 0, none⟩)] w fun e w' => SomeE w y e w' ∧ Turn nowhere w w' := by
  obtain ⟨l, hl⟩ : ∃ l, l = y :: r' := ⟨_, rfl⟩
  rw [← hl] at q
  obtain ⟨⟨A, c, xs, hb, hr, hg, hx, hz⟩, hlen, hmax, hway⟩ := q
  obtain ⟨n, hn⟩ : ∃ n, n = l.length := ⟨_, rfl⟩
  rw [← hn] at hb hr hg hlen
  have hxl : xs.length = n := by rw [hn, ← hx, List.length_map]
  obtain ⟨x, xs', hxs⟩ : ∃ x xs', xs = x :: xs' := by
    cases xs with
    | nil => rw [← hx] at hl; cases hl
    | cons x xs' => exact ⟨x, xs', rfl⟩
  have hxy : x.pl = y := by
    rw [hxs, List.map_cons, hl] at hx
    injection hx
  have hfz := hz x (by rw [hxs]; exact List.mem_cons_self ..)
  have hrw := hr.rws (by rw [List.length_map]; omega) (by decide)
  obtain ⟨b, off, rfl, hat⟩ := ad_at (j := 0) (x := x) hrw (by rw [hxs]; rfl)
  rw [Nat.zero_mul, Nat.add_zero] at hat
  have hn1 : 0 < n := by rw [← hxl, hxs]; exact Nat.succ_pos _
  have hfq : Fq w x.A x.k x.fs := Fr.fq hfz.row hfz.room
  have hkl := hfz.len
  have HB := Lib.hid hb
  have HAT := Lib.hid hat
  have HN1 := Lib.hid hn1
  have HFQ := Lib.hid hfq
  have HE := Lib.hid (show ∀ (e : Ending) (w' : World) (g : Nat), e = .returned (.tuple #[strV x.nm, .agg #[.int .i64 x.ty, .slice (some ⟨g, 0, none⟩) x.k x.k], .bool true]) → w.heap.size ≤ g → Fr w' w.heap.size (.slice (some ⟨g, 0, none⟩) x.k x.k) x.fs → SomeE w y e w' from fun e w' g h1 h2 h3 => by
    rw [← hxy]
    rw [hkl] at h1 h3
    exact ⟨g, h1, h2, h3⟩)
  clear hb hr hg hx hz hlen hmax hway hn hxl hl hxs hxy hfz hrw hat hn1 hfq hkl
  go_enter Try.func14, Try.ntmps14
  go_upto_region 0 with fail
  refine wp_region_lit ?_
  refine wpList_run (v := strV []) (wanted_none rfl) (gx_assign rfl rfl) ?_
  simp only [Act.put, List.setIfInBounds_toArray, List.set_cons_zero, List.set_cons_succ]
  refine wpList_run (v := .pointer (some ⟨w.heap.size, 0, none⟩)) (w' := w.alloc (.cells #[.int .i64 0, .slice none 0 0] 35)) (wanted_none rfl) (gx_alloc rfl (zero_msg _)) ?_
  simp only [Act.put, List.setIfInBounds_toArray, List.set_cons_zero, List.set_cons_succ]
  have hb_ := Blk.new w 35 #[.int .i64 0, .slice none 0 0]
  have ht_ := (Turn.refl nowhere w).alloc (.cells #[.int .i64 0, .slice none 0 0] 35)
  obtain ⟨r, hg_⟩ : ∃ g, g = w.heap.size := ⟨_, rfl⟩
  rw [← hg_] at hb_ ⊢
  have HLr := Lib.hid (show w.heap.size ≤ r from by omega)
  clear hg_
  generalize w.alloc (.cells #[.int .i64 0, .slice none 0 0] 35) = w1 at *
  have HBr := Lib.hid hb_
  have HT1 := Lib.hid ht_
  clear hb_ ht_
  refine wpList_run (v := .bool false) (wanted_none rfl) (gx_assign rfl rfl) ?_
  simp only [Act.put, List.setIfInBounds_toArray, List.set_cons_zero, List.set_cons_succ]
  have HB1 := Lib.hid (HB.out.turn HT1.out fun e => e)
  have HAT1 := Lib.hid (show w1.rangeAt b off x.cs from fun j v hv => (HT1.out.cell (World.block_lt_of_cell? _ _ (HAT.out j v hv)) (fun e => e)).trans (HAT.out j v hv))
  go_upto_region 1 with fail
  refine wp_region_lit ?_
  refine wpList_run (v := .pointer (some ⟨a, 0, none⟩)) (wanted_none rfl) (exec_move rfl rfl) ?_
  simp only [Act.put, List.setIfInBounds_toArray, List.set_cons_zero, List.set_cons_succ]
  refine wpList_run (v := .pointer (some ⟨a, 0, none⟩)) (wanted_none rfl) (exec_nil rfl rfl) ?_
  simp only [Act.put, List.setIfInBounds_toArray, List.set_cons_zero, List.set_cons_succ]
  refine wpList_run (v := .pointer (some ⟨a, 2, none⟩)) (wanted_none rfl) (exec_field (off := 0) (d := 2) rfl rfl (by kernel_rfl)) ?_
  simp only [Act.put, List.setIfInBounds_toArray, List.set_cons_zero, List.set_cons_succ]
  refine wpList_run (v := .bool true) (wanted_none rfl) (exec_load1 rfl rfl (by kernel_rfl) (HB1.out.cell 2)) ?_
  simp only [Act.put, List.setIfInBounds_toArray, List.set_cons_zero, List.set_cons_succ]
  refine wpList_run (v := .bool false) (wanted_none rfl) (ix_not (b := true) rfl rfl) ?_
  simp only [Act.put, List.setIfInBounds_toArray, List.set_cons_zero, List.set_cons_succ]
  go_upto_region 3 with fail
  refine wp_region_lit ?_
  refine wpList_run (v := .pointer (some ⟨a, 0, none⟩)) (wanted_none rfl) (exec_move rfl rfl) ?_
  simp only [Act.put, List.setIfInBounds_toArray, List.set_cons_zero, List.set_cons_succ]
  refine wpList_run (v := .pointer (some ⟨a, 0, none⟩)) (wanted_none rfl) (exec_nil rfl rfl) ?_
  simp only [Act.put, List.setIfInBounds_toArray, List.set_cons_zero, List.set_cons_succ]
  refine wpList_run (v := .pointer (some ⟨a, 1, none⟩)) (wanted_none rfl) (exec_field (off := 0) (d := 1) rfl rfl (by kernel_rfl)) ?_
  simp only [Act.put, List.setIfInBounds_toArray, List.set_cons_zero, List.set_cons_succ]
  refine wpList_run (v := .slice (some ⟨b, off, none⟩) n c) (wanted_none rfl) (exec_load1 rfl rfl (by kernel_rfl) (HB1.out.cell 1)) ?_
  simp only [Act.put, List.setIfInBounds_toArray, List.set_cons_zero, List.set_cons_succ]
  refine wpList_run (v := .pointer (some ⟨b, off, none⟩)) (wanted_none rfl) (gx_iaddr (i := 0) (sz := 3) rfl rfl rfl Try.underlying54 size_ad HN1.out (by omega)) ?_
  simp only [Act.put, List.setIfInBounds_toArray, List.set_cons_zero, List.set_cons_succ]
  refine wpList_run (v := .agg x.cs.toArray) (wanted_none rfl) (gx_loads rfl rfl HAT1.out Try.underlying64 rfl (by rw [size_ad]; rfl)) ?_
  simp only [Act.put, List.setIfInBounds_toArray, List.set_cons_zero, List.set_cons_succ]
  refine wpList_new 64 (.tmp 5) (.tmp 17) x.cs.toArray (wanted_none rfl) rfl (zero_ad _) rfl (wanted_none rfl) rfl rfl rfl rfl (by rw [size_ad]; rfl) (adx_arr x) ?_
  intro w2 v _ hbx hux
  simp only [Act.put, List.setIfInBounds_toArray, List.set_cons_zero, List.set_cons_succ]
  have HBv := Lib.hid hbx
  have HT2 := Lib.hid (HT1.out.trans hux fun _ _ e => e)
  have HBr2 := Lib.hid (HBr.out.turn hux fun e => e)
  have HD := Lib.hid (HT2.out.drew)
  have HBvd := Lib.hid (show Blk w2.drew v 64 x.cs.toArray from hbx)
  have HBrd := Lib.hid (HBr2.out.drew)
  clear hbx hux HAT HAT1
  go_upto_region 4 with fail
  refine wp_region_alw (fun W => Blk W v 64 x.cs.toArray) (by kernel_rfl) ?_
  have hS0 := HBvd.out
  generalize w2.drew = wd at *
  have HCO := Lib.hid (copied_walk (c := x.c) (ty := x.ty) (HFQ.out.still HD.out))
  unfold msgV at HCO
  refine alw_take (i := 0) (v := .pointer (some ⟨v, 0, none⟩)) rfl (by kernel_rfl) (by kernel_rfl) (fun _ _ _ h => h) (.inl ⟨by rfl, fun W hW => exec_field (off := 0) (d := 0) rfl rfl (by kernel_rfl)⟩) hS0 ?_
  simp only [Act.put, List.setIfInBounds_toArray, List.set_cons_zero, List.set_cons_succ]
  refine alw_take (i := 1) (v := strV x.nm) rfl (by kernel_rfl) (by kernel_rfl) (fun _ _ _ h => h) (.inl ⟨by rfl, fun W hW => exec_load1 rfl rfl (by kernel_rfl) (hW.cell 0)⟩) hS0 ?_
  simp only [Act.put, List.setIfInBounds_toArray, List.set_cons_zero, List.set_cons_succ]
  refine alw_take (i := 2) (v := .pointer (some ⟨v, 1, none⟩)) rfl (by kernel_rfl) (by kernel_rfl) (fun _ _ _ h => h) (.inl ⟨by rfl, fun W hW => exec_field (off := 0) (d := 1) rfl rfl (by kernel_rfl)⟩) hS0 ?_
  simp only [Act.put, List.setIfInBounds_toArray, List.set_cons_zero, List.set_cons_succ]
  refine alw_take (i := 3) (v := .agg #[.int .i64 x.ty, .slice x.A x.k x.c]) rfl (by kernel_rfl) (by kernel_rfl) (fun _ _ _ h => h) (.inl ⟨by rfl, fun W hW => gx_loads (cs := [.int .i64 x.ty, .slice x.A x.k x.c]) rfl rfl (fun j v2 hj => by have := blk_range hW (j + 1) v2 (by simpa [Adx.cs] using hj); rwa [Nat.zero_add, Nat.add_comm] at this) Try.underlying35 rfl (by rw [size_msg]; rfl)⟩) hS0 ?_
  simp only [Act.put, List.setIfInBounds_toArray, List.set_cons_zero, List.set_cons_succ]
  clear hS0
  refine alw_step (i := 4) (by kernel_rfl) rfl rfl ?_
  intro K1 HK1
  go_wp2_with fail
  refine (HCO.out).mono ?_
  rintro e w3 ⟨g3, rfl, hg3, hfr, ht3⟩
  have HG3 := Lib.hid hg3
  have HFR := Lib.hid hfr
  have HT3 := Lib.hid ht3
  have HBr3 := Lib.hid (HBrd.out.turn ht3 fun e => e)
  have HBv3 := Lib.hid (HBvd.out.turn ht3 fun e => e)
  clear hg3 hfr ht3
  refine HK1.out _ _ ⟨HBv3.out, ?_⟩
  clear HK1
  try simp only [Act.put, List.setIfInBounds_toArray, List.set_cons_zero, List.set_cons_succ]
  have hS0 := HBv3.out
  refine alw_take (i := 5) (v := strV x.nm) rfl (by kernel_rfl) (by kernel_rfl) (fun _ _ _ h => h) (.inl ⟨by rfl, fun W hW => gx_assign rfl rfl⟩) hS0 ?_
  simp only [Act.put, List.setIfInBounds_toArray, List.set_cons_zero, List.set_cons_succ]
  clear hS0
  refine alw_step (i := 6) (by kernel_rfl) rfl rfl ?_
  intro K1 HK1
  refine wp_store_rowU 35 (.tmp 3) (.tmp 22) rfl (#[.int .i64 x.ty, .slice (some ⟨g3, 0, none⟩) x.k x.k]) HBr3.out rfl rfl rfl (by rw [size_msg] <;> rfl) (msgA_one _ _ _ _) ?_
  intro w4 hb_ ht_
  have HBr4 := Lib.hid hb_
  have HT4 := Lib.hid ht_
  clear hb_ ht_
  refine HK1.out _ _ ⟨HBv3.out.turn HT4.out fun e => (show ¬ v = r from HBv3.out.ne_ HBr3.out (by decide)) e, ?_⟩
  clear HK1
  try simp only [Act.put, List.setIfInBounds_toArray, List.set_cons_zero, List.set_cons_succ]
  have hS0 := HBv3.out.turn HT4.out fun e => (show ¬ v = r from HBv3.out.ne_ HBr3.out (by decide)) e
  refine alw_take (i := 7) (v := .bool true) rfl (by kernel_rfl) (by kernel_rfl) (fun _ _ _ h => h) (.inl ⟨by rfl, fun W hW => gx_assign rfl rfl⟩) hS0 ?_
  simp only [Act.put, List.setIfInBounds_toArray, List.set_cons_zero, List.set_cons_succ]
  refine alw_done rfl ?_
  refine NoPanic.normal ?_
  clear hS0
  try simp only [Act.put, List.setIfInBounds_toArray, List.set_cons_zero, List.set_cons_succ]
  have HT5 := Lib.hid (newer (HD.out.trans HT3.out fun _ _ e => e) HLr.out HT4.out)
  have HFR5 := Lib.hid (HE.out _ w4 g3 rfl (Nat.le_trans HD.out.size HG3.out) (Orw.turn (Orw.less HFR.out HD.out.size) HT4.out fun b hb e => by
    have e : b = r := e
    subst e
    obtain ⟨cur, hc⟩ := Orw.own_blk HFR.out hb
    exact hc.ne_ HBr3.out (by decide) rfl))
  go_wp2_with fail
  refine bodyPost_ret (v := .tuple #[strV x.nm, .agg #[.int .i64 x.ty, .slice (some ⟨g3, 0, none⟩) x.k x.k], .bool true]) (ret_cell3 rfl _ _ r _ _ _ rfl rfl rfl HBr4.out Try.underlying35 rfl (by rw [size_msg] <;> rfl)) rfl ?_
  exact ⟨HFR5.out, HT5.out⟩
end Go.Proofs.Ytkcedcllefcboaa
