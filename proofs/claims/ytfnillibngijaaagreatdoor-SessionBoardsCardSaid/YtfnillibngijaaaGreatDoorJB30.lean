/-
  Texts in one file: SsG. Conditions: the tables and the errors read as the program's text lays them.
-/
import Derived.Test.YtfnillibngijaaaGreatDoorJB29
import Derived.Lib.SlBytesConst
namespace Go.Proofs.YtfnillibngijaaaGreatDoor
open Go.RowKit
open Sh (Wd B8 H8)
open Fdd
set_option linter.unusedVariables false
set_option linter.unusedSimpArgs false
set_option maxRecDepth 20000
def shX1 : List Fld := [(11, [48, 48, 48, 48, 48, 49])]
def shT1 : B8 := [57, 100, 51, 49, 50, 99, 102, 97, 98, 56, 97, 54, 49, 97, 48, 98]
def shT2 : B8 := [98, 97, 49, 52, 100, 100, 56, 50, 98, 99, 100, 52, 98, 55, 97, 102]
def shY1 : List Fld := [(11, [48, 48, 48, 48, 48, 49]), (64, shT1)]
def shY2 : List Fld := [(11, [48, 48, 48, 48, 48, 50]), (64, shT1)]
def shE1 : B8 := [48, 56, 48, 48, 48, 48, 50, 48, 48, 48, 48, 48, 48, 48, 48, 48, 48, 48, 48, 48, 48, 48, 48, 48, 48, 49]
def shE2 : B8 := [48, 56, 48, 48, 48, 48, 50, 48, 48, 48, 48, 48, 48, 48, 48, 48, 48, 48, 48, 48, 48, 48, 48, 48, 48, 50]
theorem sh_enc1 : mencode 1 800 shX1 = .ok shE1 := by kernel_rfl
theorem sh_enc2 : mencode 1 800 [(11, [48, 48, 48, 48, 48, 50])] = .ok shE2 := by kernel_rfl
theorem sh_mac1 : Sh.macT [107] shE1 = shT1 := by decide +kernel
theorem sh_mac2 : Sh.macT [107] shE2 = shT2 := by decide +kernel
theorem sh_ne : shT1 ≠ shT2 := by decide
theorem sh_m1 : macR 1 800 [107] shX1 = .ok shT1 := by rw [macR_ok (b := shE1) (show mencode 1 800 (bareM shX1) = .ok shE1 from sh_enc1), sh_mac1]
theorem sh_m1y : macR 1 800 [107] shY1 = .ok shT1 := by rw [macR_ok (b := shE1) (show mencode 1 800 (bareM shY1) = .ok shE1 from sh_enc1), sh_mac1]
theorem sh_m2y : macR 1 800 [107] shY2 = .ok shT2 := by rw [macR_ok (b := shE2) (show mencode 1 800 (bareM shY2) = .ok shE2 from sh_enc2), sh_mac2]
theorem sh_set : setM 64 shT1 shX1 = shY1 := by decide
theorem sh_c1 : chkR (macR 1 800 [107] shY1) shY1 = 0 := chk_ok sh_m1y rfl
theorem sh_c2 : chkR (macR 1 800 [107] shY2) shY2 = 131 := chk_no sh_m2y (fun h => sh_ne (Option.some.inj h))
theorem lx_conv {a : Act} {o : Oper} {x : Operand} {u v : Value} {W W' : World} (ho : o.op = .convert 42 42 x) (hx : a.eval x = u) (h : (convert 42 42 u).run Tryz.prog W = .ok v W') : (execOp a.eval o).run Tryz.prog W = .ok (.value v) W' := by
  unfold execOp
  simp only [ho, hx, h, Sem.run_bind, Sem.run_pure, Result.andThen_ok]
theorem ptr_nilB {a : Act} {o : Oper} {W : World} {x y : Operand} {t u : TypeId} (ho : o.op = .binOp .eql t x y u) (hx : a.eval x = .pointer none) (hy : a.eval y = .pointer none) (ht : t = 24) : (execOp a.eval o).run Tryz.prog W = .ok (.value (.bool true)) W := by
  subst ht
  unfold execOp
  simp only [ho, hx, hy]
  go_simp
theorem ptr_someB {a : Act} {o : Oper} {W : World} {x y : Operand} {t u : TypeId} {p : Addr} (ho : o.op = .binOp .eql t x y u) (hx : a.eval x = .pointer (some p)) (hy : a.eval y = .pointer none) (ht : t = 24) : (execOp a.eval o).run Tryz.prog W = .ok (.value (.bool false)) W := by
  subst ht
  unfold execOp
  simp only [ho, hx, hy]
  go_simp
theorem New_ok (w : World) {m : Int} (h : okN m) : Calls Tryz.prog 5 #[.int .i64 m] w fun e w' => ∃ p, e = .returned (.tuple #[.pointer (some ⟨p, 0, none⟩), .int .i64 0]) ∧ Bd w' p m none12 ∧ w.heap.size ≤ p ∧ Turn nowhere w w' := by
  refine (New_walk w m ⟨by have := h.1; omega, by have := h.2; omega⟩).mono ?_
  rintro e w' (⟨_, p, h1, h2, h3, h4⟩ | ⟨h1, _⟩)
  · exact ⟨p, h1, h2, h3, h4⟩
  · exact absurd h h1
theorem build_mem2 (A : Option Addr) (n c : Nat) (W : World) : (Instr.build 46 #[(1, .int .i64 1), (2, .slice A n c)]).run Tryz.prog W = .ok (.agg (memC [] 1 A n c 0 0)) W := by kernel_rfl
theorem zero_mem (w : World) : (zeroValue 46).run Tryz.prog w = .ok (.agg (memC [] 0 none 0 0 0 0)) w := by kernel_rfl
theorem build_k (W : World) : (Instr.buildSlice 42 1 #[(0, .int .u8 107)]).run Tryz.prog W = .ok (.slice (some ⟨W.heap.size, 0, none⟩) 1 1) (W.alloc (.cells (byteCells [107]) 5)) := by kernel_rfl
theorem fl_store {w w' : World} {g : Nat} {cur : Array Value} {B c : Nat} (h : FRow w B (.slice (some ⟨g, 0, none⟩) 2 c) shY1) (hb : Blk w g 53 cur) (hb' : Blk w' g 53 (cur.setIfInBounds 1 (strV [48, 48, 48, 48, 48, 50]))) : Fl w' (some ⟨g, 0, none⟩) 2 shY2 := by
  have hf := (h.fl (by decide)).1
  have hc : ∀ (k : Nat) (v : Value), (fcs shY1)[k]? = some v → cur[k]? = some v := by
    intro k v hv
    have h1 := World.ownsRow.cells (g := g) h rfl k v hv
    rw [add_nat, Nat.zero_add, hb.cell] at h1
    exact h1
  have h1 : 1 < cur.size := by
    have := hc 1 _ rfl
    exact (Array.getElem?_eq_some_iff.1 this).1
  refine ⟨rfl, by decide, fun _ => ⟨g, 0, rfl, fun i f hi j v hv => ?_⟩⟩
  rw [hb'.cell, Array.getElem?_setIfInBounds]
  match i, hi with
  | 0, hi =>
    obtain rfl : ((11, [48, 48, 48, 48, 48, 50]) : Fld) = f := Option.some.inj hi
    match j, hv with
    | 0, hv =>
      obtain rfl : Value.int .i64 11 = v := Option.some.inj hv
      rw [if_neg (by decide)]
      exact hc 0 _ rfl
    | 1, hv =>
      obtain rfl : strV [48, 48, 48, 48, 48, 50] = v := Option.some.inj hv
      rw [if_pos (by decide), if_pos h1]
    | j + 2, hv => simp [fldA] at hv
  | 1, hi =>
    obtain rfl : ((64, shT1) : Fld) = f := Option.some.inj hi
    match j, hv with
    | 0, hv =>
      obtain rfl : Value.int .i64 64 = v := Option.some.inj hv
      rw [if_neg (by decide)]
      exact hc 2 _ rfl
    | 1, hv =>
      obtain rfl : strV shT1 = v := Option.some.inj hv
      rw [if_neg (by decide)]
      exact hc 3 _ rfl
    | j + 2, hv => simp [fldA] at hv
  | i + 2, hi => simp [shY2] at hi
theorem txts_small {fs : List Fld} (h : ∀ f ∈ fs, f.2.length ≤ 1000) : Txts fs := fun f hf => Nat.le_trans (h f hf) (by decide)
theorem size_str9 : (Tryz.prog.info? 9).map (·.size) = some 1 := by kernel_rfl
theorem gx_build12 {P : Program} {a : Act} {o : Oper} {t : TypeId} {x0 x1 : Operand} {u0 u1 r : Value} {W : World} (ho : o.op = .build t #[(1, x0), (2, x1)]) (h0 : a.eval x0 = u0) (h1 : a.eval x1 = u1)
    (h : (Instr.build t #[(1, u0), (2, u1)]).run P W = .ok r W) : (execOp a.eval o).run P W = .ok (.value r) W := by
  unfold execOp
  simp only [ho, List.map_toArray, List.map_cons, List.map_nil, h0, h1, h, Sem.run_bind, Sem.run_pure, Result.andThen_ok]
set_option maxRecDepth 20000 in
set_option maxHeartbeats 4000000 in
theorem sshown_walk {s : Sents} (w : World) (he : Env s w) (hk : KT w) : Calls Tryz.prog 4 #[] w fun e w' => e = .returned (.bool true) ∧ Turn nowhere w w' := by
  have HE := Lib.hid he
  have HK := Lib.hid hk
  clear he hk
  go_enter Tryz.func4, Tryz.ntmps4
  go_upto_region 0 with fail
  refine wp_region_lit ?_
  refine wpList_run (v := .bool false) (wanted_none rfl) (gx_assign rfl rfl) ?_
  simp only [Act.put, List.setIfInBounds_toArray, List.set_cons_zero, List.set_cons_succ]
  go_upto_region 1 with fail
  refine wp_region_lit ?_
  refine wpList_run (v := .slice (some ⟨w.heap.size, 0, none⟩) 1 1) (w' := w.alloc (.cells (byteCells [107]) 5)) (wanted_none rfl) (bx_slice1 rfl rfl (build_k w)) ?_
  simp only [Act.put, List.setIfInBounds_toArray, List.set_cons_zero, List.set_cons_succ]
  refine wpList_run (v := .slice (some ⟨w.heap.size, 0, none⟩) 1 1) (w' := w.alloc (.cells (byteCells [107]) 5 (1, 2))) (wanted_none rfl) (lx_conv rfl rfl (Lib.run_convert_bytes_const _ _ 5 _ _ _ Tryz.underlying42 Tryz.underlying5)) ?_
  simp only [Act.put, List.setIfInBounds_toArray, List.set_cons_zero, List.set_cons_succ]
  have HKS := Lib.hid (bs_new w [107] 5 (1, 2) w.heap.size rfl (by decide))
  have HT0 := Lib.hid ((Turn.refl nowhere w).alloc (.cells (byteCells [107]) 5 (1, 2)))
  obtain ⟨gk0, hgk0⟩ : ∃ x, w.heap.size = x := ⟨_, rfl⟩
  rw [hgk0] at HKS ⊢
  have HLk := Lib.hid hgk0
  clear hgk0
  generalize w.alloc (.cells (byteCells [107]) 5 (1, 2)) = w1 at HKS HT0 ⊢
  refine wpList_run (v := .agg (memC [] 1 (some ⟨gk0, 0, none⟩) 1 1 0 0)) (wanted_none rfl) (gx_build12 rfl rfl rfl (build_mem2 _ _ _ _)) ?_
  simp only [Act.put, List.setIfInBounds_toArray, List.set_cons_zero, List.set_cons_succ]
  refine wpList_run (v := .pointer (some ⟨w1.heap.size, 0, none⟩)) (w' := w1.alloc (.cells (memC [] 0 none 0 0 0 0) 46)) (wanted_none rfl) (gx_alloc rfl (zero_mem _)) ?_
  simp only [Act.put, List.setIfInBounds_toArray, List.set_cons_zero, List.set_cons_succ]
  have hb_ := Blk.new w1 46 (memC [] 0 none 0 0 0 0)
  have ht_ := (Turn.refl nowhere w1).alloc (.cells (memC [] 0 none 0 0 0 0) 46)
  obtain ⟨gm, hg_⟩ : ∃ g, g = w1.heap.size := ⟨_, rfl⟩
  rw [← hg_] at hb_ ⊢
  have HLgm := Lib.hid (show w1.heap.size ≤ gm from by omega)
  clear hg_
  generalize w1.alloc (.cells (memC [] 0 none 0 0 0 0) 46) = w2 at *
  have HBgm := Lib.hid hb_
  have HT2 := Lib.hid ht_
  clear hb_ ht_
  refine wpList_store_row (wanted_none rfl) 46 (.tmp 1) (.tmp 13) rfl (memC [] 1 (some ⟨gk0, 0, none⟩) 1 1 0 0) HBgm.out rfl rfl (rfl) (by rw [size_mem] <;> rfl) (memC_one _ _ _ _ _ _ _) ?_
  intro w3 hb_ ht_
  have HBm := Lib.hid hb_
  have HT3 := Lib.hid ht_
  clear hb_ ht_
  simp only [Act.put, List.setIfInBounds_toArray, List.set_cons_zero, List.set_cons_succ]
  have HT13 := Lib.hid (HT2.out.trans HT3.out fun k' hk e => by have := HLgm.out; have e : k' = gm := e; omega)
  have HTw := Lib.hid (HT0.out.trans HT13.out fun _ _ e => e)
  have HKEY := Lib.hid (show Key w3 (some ⟨gk0, 0, none⟩) 1 1 [107] from ⟨sh_still HKS.out HT13.out, Nat.le_refl _, (fun h => by cases h), by decide⟩)
  have HLgm3 := Lib.hid (show gm < w3.heap.size from HBm.out.lt)
  have HLk3 := Lib.hid (show gk0 < w3.heap.size from sh_lt (sh_still HKS.out HT13.out) gk0 0 (by decide) rfl)
  clear HT0 HT2 HT3 HT13 HBgm HKS
  go_upto_region 2 with fail
  refine wp_region_lit ?_
  refine wpList_run (v := .agg (memC [] 1 (some ⟨gk0, 0, none⟩) 1 1 0 0)) (wanted_none rfl) (gx_loads_g rfl rfl (blk_range_g HBm.out) Tryz.underlying46 rfl (by rw [size_mem]; rfl)) ?_
  simp only [Act.put, List.setIfInBounds_toArray, List.set_cons_zero, List.set_cons_succ]
  refine wpList_run (v := .agg (fldA (11, [48, 48, 48, 48, 48, 49]))) (wanted_none rfl) (gx_build2 rfl rfl rfl (build_fldM 11 [48, 48, 48, 48, 48, 49] _)) ?_
  simp only [Act.put, List.setIfInBounds_toArray, List.set_cons_zero, List.set_cons_succ]
  have HFX := Lib.hid (fl_one (11, [48, 48, 48, 48, 48, 49]) w3)
  have HTA := Lib.hid ((Turn.refl nowhere w3).alloc (.cells (fldA (11, [48, 48, 48, 48, 48, 49])) 53))
  have HBD := Lib.hid (build_f1 (11, [48, 48, 48, 48, 48, 49]) w3)
  generalize w3.alloc (.cells (fldA (11, [48, 48, 48, 48, 48, 49])) 53) = w4 at HFX HBD HTA
  obtain ⟨gf, hgf⟩ : ∃ x, w3.heap.size = x := ⟨_, rfl⟩
  rw [hgf] at HFX HBD
  clear hgf
  refine wpList_run (v := .slice (some ⟨gf, 0, none⟩) 1 1) (w' := w4) (wanted_none rfl) (bx_slice1 rfl rfl HBD.out) ?_
  simp only [Act.put, List.setIfInBounds_toArray, List.set_cons_zero, List.set_cons_succ]
  refine wpList_run (v := .agg #[.int .i64 800, .slice (some ⟨gf, 0, none⟩) 1 1]) (wanted_none rfl) (gx_build2 rfl rfl rfl (build_msg2 _ _ _ _ _)) ?_
  simp only [Act.put, List.setIfInBounds_toArray, List.set_cons_zero, List.set_cons_succ]
  have HTw4 := Lib.hid (HTw.out.trans HTA.out fun _ _ e => e)
  have HMG := Lib.hid (show Mg w4 (some ⟨gf, 0, none⟩) 1 1 shX1 from ⟨HFX.out, (fun h => by cases h), by decide, txts_small (by decide)⟩)
  refine wpList_op_g rfl fun K9 HK9 => ?_
  go_wp2_with fail
  refine (Seal_walk (m1 := 0) (m2 := 0) (code := []) (d := 1) (ty := 800) (HE.out.turn HTw4.out) (HK.out.turn HTw4.out) (HKEY.out.still HTA.out) HMG.out).mono ?_
  rintro e w5 ⟨ty5, A5, n5, c5, rfl, ht, hmat⟩
  refine HK9.out _ _ ?_
  clear HK9
  try simp only [Act.put, List.setIfInBounds_toArray, List.set_cons_zero, List.set_cons_succ]
  rw [sh_m1] at hmat ⊢
  obtain ⟨rfl, hl5, ho5⟩ := hmat
  rw [sh_set] at hl5 ho5
  obtain rfl : 2 = n5 := hl5
  obtain ⟨g5, c5', he5, _, _, hg5, _⟩ := orw_at0 (frow_orw ho5) (by decide)
  injection he5 with e1 e2 e3
  subst e1
  clear e2 e3
  have HT45 := Lib.hid (HTA.out.trans ht fun _ _ e => e)
  have HTw5 := Lib.hid (HTw.out.trans HT45.out fun _ _ e => e)
  have HBm5 := Lib.hid (HBm.out.turn HT45.out fun e => e)
  have HKEY5 := Lib.hid (HKEY.out.still HT45.out)
  have HO5 := Lib.hid ho5
  have HG5 := Lib.hid (show w3.heap.size ≤ g5 from Nat.le_trans HTA.out.size hg5)
  have HZ35 := Lib.hid HT45.out.size
  clear ht ho5 hg5 HTA HTw4 HT45 HMG HFX HBD HBm HKEY
  refine wpList_run (v := .tuple #[msgV 800 (some ⟨g5, 0, none⟩) 2 c5, .int .i64 0]) (wanted_none rfl) (exec_move rfl rfl) ?_
  simp only [Act.put, List.setIfInBounds_toArray, List.set_cons_zero, List.set_cons_succ]
  refine wpList_run (v := msgV 800 (some ⟨g5, 0, none⟩) 2 c5) (wanted_none rfl) (ix_extract rfl rfl rfl) ?_
  simp only [Act.put, List.setIfInBounds_toArray, List.set_cons_zero, List.set_cons_succ]
  refine wpList_run (v := .int .i64 0) (wanted_none rfl) (ix_extract rfl rfl rfl) ?_
  simp only [Act.put, List.setIfInBounds_toArray, List.set_cons_zero, List.set_cons_succ]
  refine wpList_run (v := .pointer (some ⟨w5.heap.size, 0, none⟩)) (w' := w5.alloc (.cells #[.int .i64 0, .slice none 0 0] 49)) (wanted_none rfl) (gx_alloc rfl (zero_mg _)) ?_
  simp only [Act.put, List.setIfInBounds_toArray, List.set_cons_zero, List.set_cons_succ]
  have hb_ := Blk.new w5 49 #[.int .i64 0, .slice none 0 0]
  have ht_ := (Turn.refl nowhere w5).alloc (.cells #[.int .i64 0, .slice none 0 0] 49)
  obtain ⟨gx, hg_⟩ : ∃ g, g = w5.heap.size := ⟨_, rfl⟩
  rw [← hg_] at hb_ ⊢
  have HLgx := Lib.hid (show w5.heap.size ≤ gx from by omega)
  clear hg_
  generalize w5.alloc (.cells #[.int .i64 0, .slice none 0 0] 49) = w6 at *
  have HBgx := Lib.hid hb_
  have HT6 := Lib.hid ht_
  clear hb_ ht_
  refine wpList_store_row (wanted_none rfl) 49 (.tmp 2) (.tmp 20) rfl (#[.int .i64 800, .slice (some ⟨g5, 0, none⟩) 2 c5]) HBgx.out rfl rfl (rfl) (by rw [size_mg] <;> rfl) (mg_one _ _ _ _) ?_
  intro w7 hb_ ht_
  have HBx := Lib.hid hb_
  have HT7 := Lib.hid ht_
  clear hb_ ht_
  simp only [Act.put, List.setIfInBounds_toArray, List.set_cons_zero, List.set_cons_succ]
  refine wpList_run (v := .int .i64 0) (wanted_none rfl) (gx_assign rfl rfl) ?_
  simp only [Act.put, List.setIfInBounds_toArray, List.set_cons_zero, List.set_cons_succ]
  have HT57 := Lib.hid (HT6.out.trans HT7.out fun k' hk e => by have := HLgx.out; have e : k' = gx := e; omega)
  have HTw7 := Lib.hid (HTw5.out.trans HT57.out fun _ _ e => e)
  have HBm7 := Lib.hid (HBm5.out.turn HT57.out fun e => e)
  have HKEY7 := Lib.hid (HKEY5.out.still HT57.out)
  have HO7 := Lib.hid (HO5.out.still HT57.out)
  have HNgx := Lib.hid (show gx ≠ g5 from by have := HLgx.out; have := ((frow_orw HO5.out).lt rfl).2; omega)
  have HNgm := Lib.hid (show gm ≠ g5 from by have := HG5.out; have := HLgm3.out; omega)
  have HNgk := Lib.hid (show gk0 ≠ g5 from by have := HG5.out; have := HLk3.out; omega)
  have HLg5 := Lib.hid (show w.heap.size ≤ g5 from Nat.le_trans HTw.out.size HG5.out)
  have HMG7 := Lib.hid (show Mg w7 (some ⟨g5, 0, none⟩) 2 c5 shY1 from ⟨(HO7.out.fl (by decide)).1, (fun h => by cases h), by decide, txts_small (by decide)⟩)
  have HZ37 := Lib.hid (show w3.heap.size ≤ w7.heap.size from Nat.le_trans HZ35.out HT57.out.size)
  clear HT6 HT7 HT57 HTw5 HBm5 HKEY5 HO5 HBgx HTw
  go_upto_region 3 with fail
  refine wp_region_lit ?_
  refine wpList_run (v := .agg (memC [] 1 (some ⟨gk0, 0, none⟩) 1 1 0 0)) (wanted_none rfl) (gx_loads_g rfl rfl (blk_range_g HBm7.out) Tryz.underlying46 rfl (by rw [size_mem]; rfl)) ?_
  simp only [Act.put, List.setIfInBounds_toArray, List.set_cons_zero, List.set_cons_succ]
  refine wpList_run (v := msgV 800 (some ⟨g5, 0, none⟩) 2 c5) (wanted_none rfl) (gx_loads_g rfl rfl (blk_range_g HBx.out) Tryz.underlying49 rfl (by rw [size_mg]; rfl)) ?_
  simp only [Act.put, List.setIfInBounds_toArray, List.set_cons_zero, List.set_cons_succ]
  refine wpList_op_g rfl fun K9 HK9 => ?_
  go_wp2_with fail
  refine (SCheck_walk (m1 := 0) (m2 := 0) (code := []) (d := 1) (ty := 800) (HE.out.turn HTw7.out) (HK.out.turn HTw7.out) HKEY7.out HMG7.out).mono ?_
  rintro e w8 ⟨rfl, ht⟩
  refine HK9.out _ _ ?_
  clear HK9
  try simp only [Act.put, List.setIfInBounds_toArray, List.set_cons_zero, List.set_cons_succ]
  rw [sh_c1]
  have HTw8 := Lib.hid (HTw7.out.trans ht fun _ _ e => e)
  have HBm8 := Lib.hid (HBm7.out.turn ht fun e => e)
  have HBx8 := Lib.hid (HBx.out.turn ht fun e => e)
  have HKEY8 := Lib.hid (HKEY7.out.still ht)
  have HO8 := Lib.hid (HO7.out.still ht)
  have HZ38 := Lib.hid (show w3.heap.size ≤ w8.heap.size from Nat.le_trans HZ37.out ht.size)
  clear ht HTw7 HBm7 HBx HKEY7 HO7 HMG7
  have HRG := Lib.hid (fl_rng (HO8.out.fl (by decide)).1 (i := 1) (f := (64, shT1)) rfl)
  refine wpList_run (v := .int .i64 0) (wanted_none rfl) (gx_assign rfl rfl) ?_
  simp only [Act.put, List.setIfInBounds_toArray, List.set_cons_zero, List.set_cons_succ]
  obtain ⟨b9, o9, e9, hrg⟩ := HRG.out
  obtain ⟨rfl, rfl⟩ : g5 = b9 ∧ 0 = o9 := by simpa using e9
  have HC2 := Lib.hid (show w8.cell? ⟨g5, 2, none⟩ = some (.int .i64 64) from hrg 0 _ rfl)
  clear HRG e9 hrg
  go_upto_region 4 with fail
  refine wp_region_lit ?_
  refine wpList_run (v := .int .i64 0) (wanted_none rfl) (exec_move rfl rfl) ?_
  simp only [Act.put, List.setIfInBounds_toArray, List.set_cons_zero, List.set_cons_succ]
  refine wpList_run (v := .bool false) (wanted_none rfl) (ix_neq rfl rfl rfl (by decide)) ?_
  simp only [Act.put, List.setIfInBounds_toArray, List.set_cons_zero, List.set_cons_succ]
  refine wpList_run (v := .bool false) (wanted_none rfl) (exec_move rfl rfl) ?_
  simp only [Act.put, List.setIfInBounds_toArray, List.set_cons_zero, List.set_cons_succ]
  refine wpList_run (v := .int .i64 0) rfl (exec_move rfl rfl) ?_
  simp only [Act.put, List.setIfInBounds_toArray, List.set_cons_zero, List.set_cons_succ]
  refine wpList_run (v := .bool false) rfl (ix_neq rfl rfl rfl (by decide)) ?_
  simp only [Act.put, List.setIfInBounds_toArray, List.set_cons_zero, List.set_cons_succ]
  refine wpList_run (v := .bool false) (wanted_none rfl) (ix_pickF rfl rfl rfl) ?_
  simp only [Act.put, List.setIfInBounds_toArray, List.set_cons_zero, List.set_cons_succ]
  refine wpList_run (v := .bool false) (wanted_none rfl) (exec_move rfl rfl) ?_
  simp only [Act.put, List.setIfInBounds_toArray, List.set_cons_zero, List.set_cons_succ]
  refine wpList_run (v := .pointer (some ⟨gx, 1, none⟩)) rfl (exec_field (off := 0) (d := 1) rfl rfl (by kernel_rfl)) ?_
  simp only [Act.put, List.setIfInBounds_toArray, List.set_cons_zero, List.set_cons_succ]
  refine wpList_run (v := .slice (some ⟨g5, 0, none⟩) 2 c5) rfl (exec_load1 rfl rfl (by kernel_rfl) (HBx8.out.cell 1)) ?_
  simp only [Act.put, List.setIfInBounds_toArray, List.set_cons_zero, List.set_cons_succ]
  refine wpList_run (v := .int .i64 2) rfl (gx_len rfl rfl Tryz.underlying47) ?_
  simp only [Act.put, List.setIfInBounds_toArray, List.set_cons_zero, List.set_cons_succ]
  refine wpList_run (v := .bool false) rfl (ix_neq rfl rfl rfl (by decide)) ?_
  simp only [Act.put, List.setIfInBounds_toArray, List.set_cons_zero, List.set_cons_succ]
  refine wpList_run (v := .bool false) (wanted_none rfl) (ix_pickF rfl rfl rfl) ?_
  simp only [Act.put, List.setIfInBounds_toArray, List.set_cons_zero, List.set_cons_succ]
  refine wpList_run (v := .bool false) (wanted_none rfl) (exec_move rfl rfl) ?_
  simp only [Act.put, List.setIfInBounds_toArray, List.set_cons_zero, List.set_cons_succ]
  refine wpList_run (v := .pointer (some ⟨gx, 1, none⟩)) rfl (exec_field (off := 0) (d := 1) rfl rfl (by kernel_rfl)) ?_
  simp only [Act.put, List.setIfInBounds_toArray, List.set_cons_zero, List.set_cons_succ]
  refine wpList_run (v := .slice (some ⟨g5, 0, none⟩) 2 c5) rfl (exec_load1 rfl rfl (by kernel_rfl) (HBx8.out.cell 1)) ?_
  simp only [Act.put, List.setIfInBounds_toArray, List.set_cons_zero, List.set_cons_succ]
  refine wpList_run (v := .pointer (some ⟨g5, 2, none⟩)) rfl (gx_iaddr (i := 1) (sz := 2) rfl rfl rfl Tryz.underlying47 size_fd (by decide) rfl) ?_
  simp only [Act.put, List.setIfInBounds_toArray, List.set_cons_zero, List.set_cons_succ]
  refine wpList_run (v := .pointer (some ⟨g5, 2, none⟩)) rfl (exec_field (off := 2) (d := 0) rfl rfl (by kernel_rfl)) ?_
  simp only [Act.put, List.setIfInBounds_toArray, List.set_cons_zero, List.set_cons_succ]
  refine wpList_run (v := .int .i64 64) rfl (exec_load1 rfl rfl (by kernel_rfl) HC2.out) ?_
  simp only [Act.put, List.setIfInBounds_toArray, List.set_cons_zero, List.set_cons_succ]
  refine wpList_run (v := .bool false) rfl (ix_neq rfl rfl rfl (by decide)) ?_
  simp only [Act.put, List.setIfInBounds_toArray, List.set_cons_zero, List.set_cons_succ]
  refine wpList_run (v := .bool false) (wanted_none rfl) (ix_pickF rfl rfl rfl) ?_
  simp only [Act.put, List.setIfInBounds_toArray, List.set_cons_zero, List.set_cons_succ]
  obtain ⟨cur, hcur⟩ := (frow_orw HO8.out).own_blk rfl
  have HCUR := Lib.hid hcur
  have HCS := Lib.hid (show 1 < cur.size from by
    have h1 := World.ownsRow.cells (g := g5) HO8.out rfl 1 _ rfl
    rw [add_nat, Nat.zero_add, hcur.cell] at h1
    exact (Array.getElem?_eq_some_iff.1 h1).1)
  clear hcur
  go_upto_region 6 with fail
  refine wp_region_lit ?_
  refine wpList_run (v := .pointer (some ⟨gx, 1, none⟩)) (wanted_none rfl) (exec_field (off := 0) (d := 1) rfl rfl (by kernel_rfl)) ?_
  simp only [Act.put, List.setIfInBounds_toArray, List.set_cons_zero, List.set_cons_succ]
  refine wpList_run (v := .slice (some ⟨g5, 0, none⟩) 2 c5) (wanted_none rfl) (exec_load1 rfl rfl (by kernel_rfl) (HBx8.out.cell 1)) ?_
  simp only [Act.put, List.setIfInBounds_toArray, List.set_cons_zero, List.set_cons_succ]
  refine wpList_run (v := .pointer (some ⟨g5, 0, none⟩)) (wanted_none rfl) (gx_iaddr (i := 0) (sz := 2) rfl rfl rfl Tryz.underlying47 size_fd (by decide) rfl) ?_
  simp only [Act.put, List.setIfInBounds_toArray, List.set_cons_zero, List.set_cons_succ]
  refine wpList_run (v := .pointer (some ⟨g5, 1, none⟩)) (wanted_none rfl) (exec_field (off := 0) (d := 1) rfl rfl (by kernel_rfl)) ?_
  simp only [Act.put, List.setIfInBounds_toArray, List.set_cons_zero, List.set_cons_succ]
  refine wpList_put (wanted_none rfl) 9 (.tmp 48) (.const (strV [48, 48, 48, 48, 48, 50])) rfl (strV [48, 48, 48, 48, 48, 50]) (cur.setIfInBounds 1 (strV [48, 48, 48, 48, 48, 50])) HCUR.out rfl rfl HCS.out rfl rfl size_str9 rfl ?_
  intro w9 hb9 ht9
  have HFL9 := Lib.hid (fl_store HO8.out HCUR.out hb9)
  have HTw9 := Lib.hid (HTw8.out.trans ht9 fun k' hk e => by have := HLg5.out; have e : k' = g5 := e; omega)
  have HBm9 := Lib.hid (HBm8.out.turn (F := only g5) ht9 fun e => HNgm.out e)
  have HBx9 := Lib.hid (HBx8.out.turn (F := only g5) ht9 fun e => HNgx.out e)
  have HKEY9 := Lib.hid (show Key w9 (some ⟨gk0, 0, none⟩) 1 1 [107] from ⟨sh_turn HKEY8.out.bs (F := only g5) ht9 (fun b off _ e => by injection e with e; injection e with e1 e2; subst e1; exact HNgk.out), HKEY8.out.le, HKEY8.out.nil, HKEY8.out.lim⟩)
  have HLz9 := Lib.hid (show w3.heap.size ≤ w9.heap.size from Nat.le_trans HZ38.out ht9.size)
  have HLz5 := Lib.hid (show g5 < w9.heap.size from Nat.lt_of_lt_of_le HCUR.out.lt ht9.size)
  clear hb9 ht9 HTw8 HBm8 HBx8 HKEY8 HO8 HCUR HCS HC2
  simp only [Act.put, List.setIfInBounds_toArray, List.set_cons_zero, List.set_cons_succ]
  go_upto_region 7 with fail
  refine wp_region_lit ?_
  refine wpList_op_g rfl fun K9 HK9 => ?_
  go_wp2_with fail
  refine (New_ok w9 (m := 2) ⟨by decide, by decide⟩).mono ?_
  rintro e wa ⟨p, rfl, hbd, hlp, hta⟩
  refine HK9.out _ _ ?_
  clear HK9
  try simp only [Act.put, List.setIfInBounds_toArray, List.set_cons_zero, List.set_cons_succ]
  have HBDa := Lib.hid hbd
  have HLp := Lib.hid hlp
  have HTwa := Lib.hid (HTw9.out.trans hta fun _ _ e => e)
  have HBma := Lib.hid (HBm9.out.turn hta fun e => e)
  have HBxa := Lib.hid (HBx9.out.turn hta fun e => e)
  have HKEYa := Lib.hid (HKEY9.out.still hta)
  have HFLa := Lib.hid (HFL9.out.still hta)
  have HNpm := Lib.hid (show gm ≠ p from by have := HBm9.out.lt; have := HLp.out; omega)
  have HNpx := Lib.hid (show gx ≠ p from by have := HBx9.out.lt; have := HLp.out; omega)
  have HNpk := Lib.hid (show gk0 ≠ p from by have := HLk3.out; have := HLp.out; have := HLz9.out; omega)
  have HNp5 := Lib.hid (show g5 ≠ p from by have := HLp.out; have := HLz5.out; omega)
  have HLwp := Lib.hid (show w.heap.size ≤ p from Nat.le_trans HTw9.out.size HLp.out)
  have HTZ0 := Lib.hid (Turn.refl (only p) wa)
  clear hbd hlp hta HTw9 HBm9 HBx9 HKEY9 HFL9
  refine wpList_run (v := .tuple #[.pointer (some ⟨p, 0, none⟩), .int .i64 0]) (wanted_none rfl) (exec_move rfl rfl) ?_
  simp only [Act.put, List.setIfInBounds_toArray, List.set_cons_zero, List.set_cons_succ]
  refine wpList_run (v := .pointer (some ⟨p, 0, none⟩)) (wanted_none rfl) (ix_extract rfl rfl rfl) ?_
  simp only [Act.put, List.setIfInBounds_toArray, List.set_cons_zero, List.set_cons_succ]
  refine wpList_run (v := .int .i64 0) (wanted_none rfl) (ix_extract rfl rfl rfl) ?_
  simp only [Act.put, List.setIfInBounds_toArray, List.set_cons_zero, List.set_cons_succ]
  refine wpList_run (v := .pointer (some ⟨p, 0, none⟩)) (wanted_none rfl) (gx_assign rfl rfl) ?_
  simp only [Act.put, List.setIfInBounds_toArray, List.set_cons_zero, List.set_cons_succ]
  refine wpList_run (v := .int .i64 0) (wanted_none rfl) (gx_assign rfl rfl) ?_
  simp only [Act.put, List.setIfInBounds_toArray, List.set_cons_zero, List.set_cons_succ]
  go_upto_region 8 with fail
  refine wp_region_lit ?_
  refine wpList_run (v := .pointer (some ⟨p, 0, none⟩)) (wanted_none rfl) (exec_move rfl rfl) ?_
  simp only [Act.put, List.setIfInBounds_toArray, List.set_cons_zero, List.set_cons_succ]
  refine wpList_run (v := .bool false) (wanted_none rfl) (ptr_someB rfl rfl rfl rfl) ?_
  simp only [Act.put, List.setIfInBounds_toArray, List.set_cons_zero, List.set_cons_succ]
  refine wpList_run (v := .bool false) (wanted_none rfl) (exec_move rfl rfl) ?_
  simp only [Act.put, List.setIfInBounds_toArray, List.set_cons_zero, List.set_cons_succ]
  refine wpList_run (v := .int .i64 0) rfl (exec_move rfl rfl) ?_
  simp only [Act.put, List.setIfInBounds_toArray, List.set_cons_zero, List.set_cons_succ]
  refine wpList_run (v := .bool false) rfl (ix_neq rfl rfl rfl (by decide)) ?_
  simp only [Act.put, List.setIfInBounds_toArray, List.set_cons_zero, List.set_cons_succ]
  refine wpList_run (v := .bool false) (wanted_none rfl) (ix_pickF rfl rfl rfl) ?_
  simp only [Act.put, List.setIfInBounds_toArray, List.set_cons_zero, List.set_cons_succ]
  go_upto_region 10 with fail
  refine wp_region_lit ?_
  refine wpList_run (v := .pointer (some ⟨p, 0, none⟩)) (wanted_none rfl) (exec_move rfl rfl) ?_
  simp only [Act.put, List.setIfInBounds_toArray, List.set_cons_zero, List.set_cons_succ]
  refine wpList_op_g rfl fun K9 HK9 => ?_
  go_wp2_with fail
  refine (Sign_walk (m := 0) (on := true) HBDa.out).mono ?_
  rintro e wb ⟨rfl, hb, ht⟩
  refine HK9.out _ _ ?_
  clear HK9
  try simp only [Act.put, List.setIfInBounds_toArray, List.set_cons_zero, List.set_cons_succ]
  have HBDb := Lib.hid hb
  have HTb := Lib.hid ht
  clear hb ht
  go_upto_region 11 with fail
  refine wp_region_lit ?_
  refine wpList_run (v := .pointer (some ⟨p, 0, none⟩)) (wanted_none rfl) (exec_move rfl rfl) ?_
  simp only [Act.put, List.setIfInBounds_toArray, List.set_cons_zero, List.set_cons_succ]
  refine wpList_op_g rfl fun K9 HK9 => ?_
  go_wp2_with fail
  refine (Ready_walk (m := 0) HBDb.out).mono ?_
  rintro e wc ⟨rfl, ht⟩
  refine HK9.out _ _ ?_
  clear HK9
  try simp only [Act.put, List.setIfInBounds_toArray, List.set_cons_zero, List.set_cons_succ]
  rw [show readyL 2 0 (signL 0 2 0 true none12) = true from by decide]
  have HBDc := Lib.hid (HBDb.out.still ht)
  have HTc := Lib.hid (HTb.out.trans ht fun _ _ e => e.elim)
  clear ht HBDb HTb HTZ0
  refine wpList_run (v := .bool true) (wanted_none rfl) (gx_assign rfl rfl) ?_
  simp only [Act.put, List.setIfInBounds_toArray, List.set_cons_zero, List.set_cons_succ]
  go_upto_region 12 with fail
  refine wp_region_lit ?_
  refine wpList_run (v := .pointer (some ⟨p, 0, none⟩)) (wanted_none rfl) (exec_move rfl rfl) ?_
  simp only [Act.put, List.setIfInBounds_toArray, List.set_cons_zero, List.set_cons_succ]
  refine wpList_op_g rfl fun K9 HK9 => ?_
  go_wp2_with fail
  refine (Block_walk (m := 0) (on := true) HBDc.out).mono ?_
  rintro e wd ⟨rfl, hb, ht⟩
  refine HK9.out _ _ ?_
  clear HK9
  try simp only [Act.put, List.setIfInBounds_toArray, List.set_cons_zero, List.set_cons_succ]
  have HBDd := Lib.hid hb
  have HTd := Lib.hid (HTc.out.trans ht fun _ _ e => e)
  clear hb ht HBDc HTc
  go_upto_region 13 with fail
  refine wp_region_lit ?_
  refine wpList_run (v := .pointer (some ⟨p, 0, none⟩)) (wanted_none rfl) (exec_move rfl rfl) ?_
  simp only [Act.put, List.setIfInBounds_toArray, List.set_cons_zero, List.set_cons_succ]
  refine wpList_op_g rfl fun K9 HK9 => ?_
  go_wp2_with fail
  refine (Ready_walk (m := 0) HBDd.out).mono ?_
  rintro e we ⟨rfl, ht⟩
  refine HK9.out _ _ ?_
  clear HK9
  try simp only [Act.put, List.setIfInBounds_toArray, List.set_cons_zero, List.set_cons_succ]
  rw [show readyL 2 0 (signL 1 2 0 true (signL 0 2 0 true none12)) = false from by decide]
  have HBDe := Lib.hid (HBDd.out.still ht)
  have HTe := Lib.hid (HTd.out.trans ht fun _ _ e => e.elim)
  clear ht HBDd HTd
  refine wpList_run (v := .bool false) (wanted_none rfl) (gx_assign rfl rfl) ?_
  simp only [Act.put, List.setIfInBounds_toArray, List.set_cons_zero, List.set_cons_succ]
  go_upto_region 14 with fail
  refine wp_region_lit ?_
  refine wpList_run (v := .pointer (some ⟨p, 0, none⟩)) (wanted_none rfl) (exec_move rfl rfl) ?_
  simp only [Act.put, List.setIfInBounds_toArray, List.set_cons_zero, List.set_cons_succ]
  refine wpList_op_g rfl fun K9 HK9 => ?_
  go_wp2_with fail
  refine (Reset_walk HBDe.out).mono ?_
  rintro e wf ⟨⟨vr, rfl⟩, hb, ht⟩
  refine HK9.out _ _ ?_
  clear HK9
  try simp only [Act.put, List.setIfInBounds_toArray, List.set_cons_zero, List.set_cons_succ]
  have HBDf := Lib.hid hb
  have HTf := Lib.hid (HTe.out.trans ht fun _ _ e => e)
  clear hb ht HBDe HTe
  go_upto_region 15 with fail
  refine wp_region_lit ?_
  refine wpList_run (v := .pointer (some ⟨p, 0, none⟩)) (wanted_none rfl) (exec_move rfl rfl) ?_
  simp only [Act.put, List.setIfInBounds_toArray, List.set_cons_zero, List.set_cons_succ]
  refine wpList_op_g rfl fun K9 HK9 => ?_
  go_wp2_with fail
  refine (Look_walk (m := 0) HBDf.out).mono ?_
  rintro e wg ⟨rfl, ht⟩
  refine HK9.out _ _ ?_
  clear HK9
  try simp only [Act.put, List.setIfInBounds_toArray, List.set_cons_zero, List.set_cons_succ]
  rw [show lookL 0 2 0 (resetL 6 (signL 1 2 0 true (signL 0 2 0 true none12))) = false from by decide, show lookL 1 2 0 (resetL 6 (signL 1 2 0 true (signL 0 2 0 true none12))) = true from by decide]
  have HTg := Lib.hid (HTf.out.trans ht fun _ _ e => e.elim)
  have HTwg := Lib.hid (HTwa.out.trans HTg.out fun k' hk e => by have := HLwp.out; have e : k' = p := e; omega)
  have HBmg := Lib.hid (HBma.out.turn (F := only p) HTg.out fun e => HNpm.out e)
  have HBxg := Lib.hid (HBxa.out.turn (F := only p) HTg.out fun e => HNpx.out e)
  have HKEYg := Lib.hid (show Key wg (some ⟨gk0, 0, none⟩) 1 1 [107] from ⟨sh_turn HKEYa.out.bs (F := only p) HTg.out (fun b off _ e => by injection e with e; injection e with e1 e2; subst e1; exact fun e => by have := HNpk.out; exact this e), HKEYa.out.le, HKEYa.out.nil, HKEYa.out.lim⟩)
  have HFLg := Lib.hid (fl_turn HFLa.out HTg.out (fun b o t e => by injection e with e; injection e with e1 e2; subst e1; have := HNp5.out; exact this))
  have HMGg := Lib.hid (show Mg wg (some ⟨g5, 0, none⟩) 2 c5 shY2 from ⟨HFLg.out, (fun h => by cases h), by decide, txts_small (by decide)⟩)
  clear ht HBDf HTf HTg
  refine wpList_run (v := .tuple #[.bool false, .bool true]) (wanted_none rfl) (exec_move rfl rfl) ?_
  simp only [Act.put, List.setIfInBounds_toArray, List.set_cons_zero, List.set_cons_succ]
  refine wpList_run (v := .bool false) (wanted_none rfl) (ix_extract rfl rfl rfl) ?_
  simp only [Act.put, List.setIfInBounds_toArray, List.set_cons_zero, List.set_cons_succ]
  refine wpList_run (v := .bool true) (wanted_none rfl) (ix_extract rfl rfl rfl) ?_
  simp only [Act.put, List.setIfInBounds_toArray, List.set_cons_zero, List.set_cons_succ]
  refine wpList_run (v := .bool false) (wanted_none rfl) (gx_assign rfl rfl) ?_
  simp only [Act.put, List.setIfInBounds_toArray, List.set_cons_zero, List.set_cons_succ]
  refine wpList_run (v := .bool true) (wanted_none rfl) (gx_assign rfl rfl) ?_
  simp only [Act.put, List.setIfInBounds_toArray, List.set_cons_zero, List.set_cons_succ]
  go_upto_region 16 with fail
  refine wp_region_lit ?_
  refine wpList_run (v := .agg (memC [] 1 (some ⟨gk0, 0, none⟩) 1 1 0 0)) (wanted_none rfl) (gx_loads_g rfl rfl (blk_range_g HBmg.out) Tryz.underlying46 rfl (by rw [size_mem]; rfl)) ?_
  simp only [Act.put, List.setIfInBounds_toArray, List.set_cons_zero, List.set_cons_succ]
  refine wpList_run (v := msgV 800 (some ⟨g5, 0, none⟩) 2 c5) (wanted_none rfl) (gx_loads_g rfl rfl (blk_range_g HBxg.out) Tryz.underlying49 rfl (by rw [size_mg]; rfl)) ?_
  simp only [Act.put, List.setIfInBounds_toArray, List.set_cons_zero, List.set_cons_succ]
  refine wpList_op_g rfl fun K9 HK9 => ?_
  go_wp2_with fail
  refine (SCheck_walk (m1 := 0) (m2 := 0) (code := []) (d := 1) (ty := 800) (HE.out.turn HTwg.out) (HK.out.turn HTwg.out) HKEYg.out HMGg.out).mono ?_
  rintro e wz ⟨rfl, ht⟩
  refine HK9.out _ _ ?_
  clear HK9
  try simp only [Act.put, List.setIfInBounds_toArray, List.set_cons_zero, List.set_cons_succ]
  rw [sh_c2]
  have HTZ := Lib.hid (HTwg.out.trans ht fun _ _ e => e)
  clear ht
  refine wpList_run (v := .bool true) (wanted_none rfl) (ix_eql rfl rfl rfl (by decide)) ?_
  simp only [Act.put, List.setIfInBounds_toArray, List.set_cons_zero, List.set_cons_succ]
  refine wpList_run (v := .bool true) (wanted_none rfl) (exec_move rfl rfl) ?_
  simp only [Act.put, List.setIfInBounds_toArray, List.set_cons_zero, List.set_cons_succ]
  refine wpList_run (v := .bool true) rfl (exec_move rfl rfl) ?_
  simp only [Act.put, List.setIfInBounds_toArray, List.set_cons_zero, List.set_cons_succ]
  refine wpList_run (v := .bool true) (wanted_none rfl) (ix_pickT rfl rfl rfl) ?_
  simp only [Act.put, List.setIfInBounds_toArray, List.set_cons_zero, List.set_cons_succ]
  refine wpList_run (v := .bool true) (wanted_none rfl) (exec_move rfl rfl) ?_
  simp only [Act.put, List.setIfInBounds_toArray, List.set_cons_zero, List.set_cons_succ]
  refine wpList_run (v := .bool false) rfl (exec_move rfl rfl) ?_
  simp only [Act.put, List.setIfInBounds_toArray, List.set_cons_zero, List.set_cons_succ]
  refine wpList_run (v := .bool true) rfl (ix_not (b := false) rfl rfl) ?_
  simp only [Act.put, List.setIfInBounds_toArray, List.set_cons_zero, List.set_cons_succ]
  refine wpList_run (v := .bool true) (wanted_none rfl) (ix_pickT rfl rfl rfl) ?_
  simp only [Act.put, List.setIfInBounds_toArray, List.set_cons_zero, List.set_cons_succ]
  refine wpList_run (v := .bool true) (wanted_none rfl) (exec_move rfl rfl) ?_
  simp only [Act.put, List.setIfInBounds_toArray, List.set_cons_zero, List.set_cons_succ]
  refine wpList_run (v := .bool false) rfl (exec_move rfl rfl) ?_
  simp only [Act.put, List.setIfInBounds_toArray, List.set_cons_zero, List.set_cons_succ]
  refine wpList_run (v := .bool true) rfl (ix_not (b := false) rfl rfl) ?_
  simp only [Act.put, List.setIfInBounds_toArray, List.set_cons_zero, List.set_cons_succ]
  refine wpList_run (v := .bool true) (wanted_none rfl) (ix_pickT rfl rfl rfl) ?_
  simp only [Act.put, List.setIfInBounds_toArray, List.set_cons_zero, List.set_cons_succ]
  refine wpList_run (v := .bool true) (wanted_none rfl) (exec_move rfl rfl) ?_
  simp only [Act.put, List.setIfInBounds_toArray, List.set_cons_zero, List.set_cons_succ]
  refine wpList_run (v := .bool true) rfl (exec_move rfl rfl) ?_
  simp only [Act.put, List.setIfInBounds_toArray, List.set_cons_zero, List.set_cons_succ]
  refine wpList_run (v := .bool true) (wanted_none rfl) (ix_pickT rfl rfl rfl) ?_
  simp only [Act.put, List.setIfInBounds_toArray, List.set_cons_zero, List.set_cons_succ]
  refine wpList_run (v := .bool true) (wanted_none rfl) (gx_assign rfl rfl) ?_
  simp only [Act.put, List.setIfInBounds_toArray, List.set_cons_zero, List.set_cons_succ]
  go_wp2_with fail
  go_ret
  exact ⟨rfl, HTZ.out⟩
end Go.Proofs.YtfnillibngijaaaGreatDoor
