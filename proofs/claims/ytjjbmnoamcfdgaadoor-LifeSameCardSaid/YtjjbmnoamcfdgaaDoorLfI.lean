/-
  Messages that came in; LifeKeys and LifeSame. No conditions.
-/
import Derived.Test.YtjjbmnoamcfdgaaDoorLfH
import Derived.Test.YtjjbmnoamcfdgaaDoorRwo
import Derived.Test.YtjjbmnoamcfdgaaDoorRows
import Derived.Lib.LaidTab
import Derived.SizedLaws
import Derived.OpenShut
import Derived.Lib.SmallJoins
namespace Go.Proofs.YtjjbmnoamcfdgaaDoor
open Go.RowKit Go.ChangeShapes Go.WideShapes Go.Deep Go.ChangeAt
set_option linter.unusedVariables false
set_option linter.unusedSimpArgs false
set_option maxRecDepth 20000
/-- two may come up: either way -/
theorem alw_two {P : Program} {md : Region.Mode} {ops : Array Oper} {Q : Exit → Act → World → Prop} {S : World → Prop} {i k : Nat} {oi ok : Oper} {n : Nat} {l : Array Bool} {a : Act} {w : World} (hr : Region.ready md ops l = [i, k]) (hi : ops.toList[i]? = some oi) (hk : ops.toList[k]? = some ok)
    (wi : Region.wanted oi (yielded ops a.tmps) = true) (wk : Region.wanted ok (yielded ops a.tmps) = true)
    (hA : ∀ K : Act → World → Prop, Shut (∀ a' w', (S w' ∧ Alw P md ops Q S n (l.setIfInBounds i true) a' w') → K a' w') → oi.wp P a w K Q)
    (hB : ∀ K : Act → World → Prop, Shut (∀ a' w', (S w' ∧ Alw P md ops Q S n (l.setIfInBounds k true) a' w') → K a' w') → ok.wp P a w K Q) : Alw P md ops Q S (n + 1) l a w := by
  have ho : ops[i]? = some oi := by rw [← hi, Array.getElem?_toList]
  have hok : ops[k]? = some ok := by rw [← hk, Array.getElem?_toList]
  refine ⟨fun h0 => (by rw [h0] at hr; cases hr), fun j hj => ?_⟩
  rw [hr] at hj
  have hj2 : j = i ∨ j = k := by simpa using hj
  rcases hj2 with rfl | rfl
  · unfold wpOp
    simp only [ho, wi, if_true]
    exact .inl (hA _ fun _ _ h' => h')
  · unfold wpOp
    simp only [hok, wk, if_true]
    exact .inl (hB _ fun _ _ h' => h')
theorem build_f0 (W : World) : (Instr.buildSlice 22 0 #[]).run Tryd.prog W = .ok (.slice (some ⟨W.heap.size, 0, none⟩) 0 0) (W.alloc (.cells #[] 34)) := by kernel_rfl
theorem build_msg2 (ty : Int) (A : Option Addr) (n c : Nat) (W : World) : (Instr.build 24 #[(0, .int .i64 ty), (1, .slice A n c)]).run Tryd.prog W = .ok (.agg #[.int .i64 ty, .slice A n c]) W := by kernel_rfl
theorem elmF : Elm Tryd.prog 22 34 2 24 (.agg #[.int .i64 0, .string ByteArray.empty]) := ⟨Tryd.underlying22, by kernel_rfl, rfl, by decide, by decide⟩
def fldL (f : Fld) : List Value := [.int .i64 f.1, strV f.2]
theorem fit_fs (fs : List Fld) : Fit 2 (fs.map fldL) := fun r hr => by
  obtain ⟨f, _, rfl⟩ := List.mem_map.1 hr
  exact ⟨rfl, fun u hu => fldA_one f u hu⟩
theorem Fl.rws {w : World} {A : Option Addr} {n : Nat} {fs : List Fld} (h : Fl w A n fs) : Rws w 2 A n (fs.map fldL) := by
  refine ⟨by rw [List.length_map]; exact h.1, fun r hr => (fit_fs fs r hr).1, h.2.1, fun hp => ?_⟩
  obtain ⟨b, off, e, hc⟩ := h.2.2 hp
  refine ⟨b, off, e, fun i r hr j v hv => ?_⟩
  rw [List.getElem?_map] at hr
  obtain ⟨f, hf, rfl⟩ := Option.map_eq_some_iff.1 hr
  exact hc i f hf j v hv
theorem fl_rws {w : World} {A : Option Addr} {n : Nat} {fs : List Fld} (h : Rws w 2 A n (fs.map fldL)) : Fl w A n fs := by
  refine ⟨by have := h.1; rwa [List.length_map] at this, h.2.2.1, fun hp => ?_⟩
  obtain ⟨b, off, e, hc⟩ := h.2.2.2 hp
  exact ⟨b, off, e, fun i f hf j v hv => hc i (fldL f) (by rw [List.getElem?_map, hf]; rfl) j v hv⟩
/-- fields in a row of the call's own -/
def Fr (w : World) (B : Nat) (v : Value) (fs : List Fld) : Prop := Orw w B 34 2 v (fs.map fldL)
theorem Fr.fl {w : World} {B : Nat} {A : Option Addr} {n c : Nat} {fs : List Fld} (h : Fr w B (.slice A n c) fs) (hn : fs.length ≤ 140737488355328) : Fl w A n fs := fl_rws (Orw.rws h (by rwa [List.length_map]) (by decide))
theorem above {w0 w w' : World} {g : Nat} (h : Turn nowhere w0 w) (hg : w0.heap.size ≤ g) (ht : Turn (only g) w w') : Turn nowhere w0 w' := h.trans ht (fun k hk e => by
  have e : k = g := e
  omega)
theorem own_made {w wx : World} (hT : Turn nowhere w wx) : Fr (wx.alloc (.cells #[] 34)) w.heap.size (.slice (some ⟨wx.heap.size, 0, none⟩) 0 0) [] := ⟨Fit.nil 2, World.ownsRow_made wx #[] 0 hT.size (by unfold maxLen; omega) rfl⟩
theorem own_app {w wx : World} {g : Nat} {A : Option Addr} {n c : Nat} {fs : List Fld} (hrow : Fr wx w.heap.size (.slice (some ⟨g, 0, none⟩) 0 0) []) (hT : Turn nowhere w wx) (hf : Fl w A n fs) (hz : A = none → c = 0) (hm : n * 24 ≤ 140737488355328) :
    ∃ A' c' w', (Builtin.append_ #[22, 22] 22 #[.slice (some ⟨g, 0, none⟩) 0 0, .slice A n c]).run Tryd.prog wx = .ok (.slice A' n c') w' ∧ Fr w' w.heap.size (.slice A' n c') fs ∧ Turn nowhere w w' ∧ wx.grownBy w' (some g) := by
  obtain ⟨A', c', w', h1, h2, h3, _⟩ := orw_grow elmF (ty := 22) (c := c) hrow hT.size (hf.still hT).rws (fit_fs fs) hz (by simp; omega)
  have hl : (([] : List Fld).map fldL).length + n = n := by simp
  rw [hl] at h1 h2
  refine ⟨A', c', w', h1, h2, hT.grown h3 fun q e hq => ?_, h3⟩
  have := (Orw.lt hrow e).1
  omega
theorem own_end {w w6 w7 : World} {g : Nat} {v : Value} {fs : List Fld} {cs : Array Value} (hro : Fr w6 w.heap.size v fs) (hb6 : Blk w6 g 24 cs) (ht : Turn nowhere w w6) (hg : w.heap.size ≤ g) (h7 : Turn (only g) w6 w7) : Fr w7 w.heap.size v fs ∧ Turn nowhere w w7 :=
  ⟨Orw.turn hro h7 (fun q hq e => Orw.ne hro hb6 (by decide) q hq e), above ht hg h7⟩
theorem gCmp : Tryd.prog.globalNamed "groat/life.compared" = some 0 := by kernel_rfl
theorem cmp_datum : (Rows.laid_groat_life_compared : DataW Unit) = Lib.tabData .i64 nosL := by kernel_rfl
theorem ct_of_laid {W : World} (h : laidMetH Tryd.prog [("groat/life.compared", Rows.laid_groat_life_compared)] W) : CT W := by
  rw [cmp_datum] at h
  have h2 := Lib.tabIs_of_head (t := 38) (e := 3) (n := 7) gCmp (by kernel_rfl) Tryd.underlying38 Tryd.underlying3 (by kernel_rfl) (by kernel_rfl) h
  intro i v hv
  have hi : i < 7 := (List.getElem?_eq_some_iff.1 hv).1
  rw [h2.cell gCmp i hi]
  unfold nosV at hv
  rw [List.getElem?_map] at hv
  obtain ⟨k, hk, rfl⟩ := Option.map_eq_some_iff.1 hv
  rw [List.getD_eq_getElem?_getD, hk]
  rfl
theorem reach_eq : reachBytes = 140737488351232 := by decide
section
variable {H : Type} {enc : TypeId × Value → H} {W : World} {base : Nat} {spare : Nat → Bool} {held : Bool}
set_option maxRecDepth 20000 in
theorem fl_of {fuel : Nat} {v : Value} {x : DataW H × List MemPlace} (h : DataW.trod enc Tryd.prog W base spare held fuel 22 [v] = some x) (hw : ∀ q ∈ x.1.weights Tryd.prog 22, q ≤ reachBytes) :
    ∃ (A : Option Addr) (n c : Nat) (fs : List Fld), v = .slice A n c ∧ Fl W A n fs ∧ n ≤ c ∧ (A = none → c = 0) ∧ n * 24 ≤ 140737488355328 ∧ Shorts fs := by
  obtain ⟨A, n, c, fs, h1, h2, h3, h4, h5, h6, _⟩ := open_rwsW (by_ := 24) Tryd.underlying22 (k := 2) (by kernel_rfl) (by decide) (by kernel_rfl) (by decide) fldL (fun f : Fld => f.2.length ≤ 140737488355328) (0, []) (fun _ => rfl) (fun n cs y hy hwy => by
    obtain ⟨hl, m, hf⟩ := open_fldsW Tryd.underlying34 (by kernel_rfl) (by kernel_rfl) hy
    obtain ⟨c0, z0, e0, t0, _⟩ := hf 0 _ rfl
    obtain ⟨c1, z1, e1, t1, q1⟩ := hf 1 _ rfl
    obtain ⟨k, g0, _, _⟩ := DataW.trod_int Tryd.underlying3 t0
    obtain ⟨s, g1, hz1, ws⟩ := DataW.trod_string Tryd.underlying9 t1
    injection g0 with g0
    injection g1 with g1
    subst g0 g1
    have hs := hwy s.data.toList.length (q1 _ (by
      rw [hz1]
      simp [DataW.weights]))
    rw [reach_eq] at hs
    refine ⟨(k, s.data.toList), ?_, by show s.data.toList.length ≤ _; omega⟩
    have hl2 : cs.length = 2 := hl
    match cs, hl2 with
    | [a, b], _ =>
      cases e0
      cases e1
      rfl) h hw
  have := reachBytes_lt
  exact ⟨A, n, c, fs, h1, fl_rws h2, h3, h4, by omega, h6⟩
/-- a message that came in -/
structure Mi (W : World) (ty : Int) (A : Option Addr) (n c : Nat) (fs : List Fld) : Prop where
  fl : Fl W A n fs
  sh : Shorts fs
  nil : A = none → c = 0
  room : n * 24 ≤ 140737488355328
  int : -9223372036854775808 ≤ ty ∧ ty ≤ 9223372036854775807
set_option maxRecDepth 20000 in
theorem mg_of {b0 : Nat} {r : Reach} {v : Value} {d : DataW H} {p : List MemPlace} (hv : Value.okWide Tryd.prog W r b0 24 v) (h : DataW.Trod enc Tryd.prog W base spare held 24 v d p) (hw : ∀ q ∈ d.weights Tryd.prog 24, q ≤ reachBytes) :
    ∃ (ty : Int) (A : Option Addr) (n c : Nat) (fs : List Fld), v = msgV ty A n c ∧ Mi W ty A n c fs := by
  obtain ⟨v0, v1, y0, y1, n, rfl, rfl, _, t0, t1⟩ := Go.Joins.open_agg2 Tryd.underlying24 (by kernel_rfl) (by kernel_rfl) hv h
  obtain ⟨k, e0, _, w0⟩ := DataW.trod_int Tryd.underlying3 t0
  injection e0 with e0
  subst e0
  obtain ⟨A, n, c, fs, rfl, hf, hnc, hz, hr, hs⟩ := fl_of t1 (fun k hk => hw k (by
    unfold DataW.weights
    simp only [Tryd.underlying24]
    show k ∈ DataW.weightsEach Tryd.prog [3, 22] [y0.1, y1.1]
    unfold DataW.weightsEach DataW.weightsEach
    exact List.mem_append_right _ (List.mem_append_left _ hk)))
  exact ⟨k, A, n, c, fs, rfl, hf, hs, hz, hr, i64_in w0⟩
end
theorem alike_sym (ta tb : Int) (fa fb : List Fld) : alikeM tb fb ta fa = alikeM ta fa tb fb := by
  unfold alikeM alikeF
  have e : ∀ k, decide (getM k fb = getM k fa) = decide (getM k fa = getM k fb) := fun k => by
    by_cases h : getM k fa = getM k fb
    · rw [decide_eq_true h, decide_eq_true h.symm]
    · rw [decide_eq_false h, decide_eq_false fun h' => h h'.symm]
  have e2 : decide (tb.tdiv 10 = ta.tdiv 10) = decide (ta.tdiv 10 = tb.tdiv 10) := by
    by_cases h : ta.tdiv 10 = tb.tdiv 10
    · rw [decide_eq_true h, decide_eq_true h.symm]
    · rw [decide_eq_false h, decide_eq_false fun h' => h h'.symm]
  rw [e2]
  simp only [e]
theorem alike_same {ta tb : Int} (h : ta.tdiv 10 = tb.tdiv 10) (fs : List Fld) : alikeM ta fs tb fs = true := by
  unfold alikeM alikeF
  rw [decide_eq_true h]
  simp
theorem keyV_ex (o : Option (List UInt8)) : ∃ k e, keyV o = .tuple #[strV k, .int .i64 e] := ⟨_, _, rfl⟩
set_option maxRecDepth 20000 in
set_option maxHeartbeats 4000000 in
theorem lifeKeys_walk {t1 t2 : Int} {A1 A2 : Option Addr} {n1 c1 n2 c2 : Nat} {fa fb : List Fld} (w : World) (hc : CT w) (hm1 : Mi w t1 A1 n1 c1 fa) (hm2 : Mi w t2 A2 n2 c2 fb) : Calls Tryd.prog 3 #[msgV t1 A1 n1 c1, msgV t2 A2 n2 c2] w fun e w' => e = .returned (.bool true) ∧ Below w.heap.size w w' := by
  have HM1 := Lib.hid hm1
  have HM2 := Lib.hid hm2
  have HC := Lib.hid hc
  clear hm1 hm2 hc
  unfold msgV
  go_enter Tryd.func3, Tryd.ntmps3
  go_upto_region 1 with fail
  have hb0 := Blk.new w 24 #[.int .i64 t1, .slice A1 n1 c1]
  have hu0 := (Turn.refl nowhere w).alloc (.cells #[.int .i64 t1, .slice A1 n1 c1] 24)
  have hb1 := Blk.new (w.alloc (.cells #[.int .i64 t1, .slice A1 n1 c1] 24)) 24 #[.int .i64 t2, .slice A2 n2 c2]
  have hu1 := (Turn.refl nowhere (w.alloc (.cells #[.int .i64 t1, .slice A1 n1 c1] 24))).alloc (.cells #[.int .i64 t2, .slice A2 n2 c2] 24)
  rw [show (w.alloc (.cells #[.int .i64 t1, .slice A1 n1 c1] 24)).heap.size = w.heap.size + 1 from by simp] at hb1
  have hbz := hb0.alloc (.cells #[.int .i64 t2, .slice A2 n2 c2] 24)
  have huz := hu0.trans hu1 (fun _ _ e => e)
  clear hb0 hu0 hu1
  obtain ⟨gb, hg1⟩ : ∃ g, g = w.heap.size + 1 := ⟨_, rfl⟩
  rw [← hg1] at hb1 ⊢
  clear hg1
  obtain ⟨ga, hg0⟩ : ∃ g, g = w.heap.size := ⟨_, rfl⟩
  rw [← hg0] at hbz ⊢
  clear hg0
  generalize (w.alloc (.cells #[.int .i64 t1, .slice A1 n1 c1] 24)).alloc (.cells #[.int .i64 t2, .slice A2 n2 c2] 24) = w1 at *
  have HBga := Lib.hid hbz
  have HT0 := Lib.hid huz
  have HBgb := Lib.hid hb1
  clear hbz huz hb1
  have HCw := Lib.hid (HC.out.still HT0.out)
  have HF1 := Lib.hid (HM1.out.fl.still HT0.out)
  have HF2 := Lib.hid (HM2.out.fl.still HT0.out)
  refine wp_region_lit ?_
  refine wpList_op rfl fun K9 HK9 => ?_
  go_wp2_with fail
  refine (shown_walk w1).mono ?_
  rintro e w2 ⟨rfl, ht⟩
  refine HK9.out _ _ ?_
  clear HK9
  try simp only [Act.put, List.setIfInBounds_toArray, List.set_cons_zero, List.set_cons_succ]
  have HT1 := Lib.hid ht
  clear ht
  refine wpList_run (v := .bool true) (wanted_none rfl) (gx_assign rfl rfl) ?_
  simp only [Act.put, List.setIfInBounds_toArray, List.set_cons_zero, List.set_cons_succ]
  obtain ⟨k, e, hk⟩ := keyV_ex (keyM fa)
  obtain ⟨k2, e2, hk2⟩ := keyV_ex (origM fa)
  have HK := Lib.hid hk
  have HK2 := Lib.hid hk2
  clear hk hk2
  go_upto_region 2 with fail
  refine wp_region_lit ?_
  refine wpList_run (v := msgV t1 A1 n1 c1) (wanted_none rfl) (gx_loads rfl rfl (blk_range (HBga.out.turn HT1.out (fun e => e))) Tryd.underlying24 rfl (by rw [size_msg]; rfl)) ?_
  simp only [Act.put, List.setIfInBounds_toArray, List.set_cons_zero, List.set_cons_succ]
  have hr := Key_walk (ty := t1) (c := c1) (HF1.out.still HT1.out) HM1.out.sh
  rw [HK.out] at hr
  refine wpList_op rfl fun K9 HK9 => ?_
  go_wp2_with fail
  refine (hr).mono ?_
  rintro e w3 ⟨rfl, ht⟩
  refine HK9.out _ _ ?_
  clear HK9
  try simp only [Act.put, List.setIfInBounds_toArray, List.set_cons_zero, List.set_cons_succ]
  have HT2 := Lib.hid (HT1.out.trans ht fun _ _ e => e)
  clear ht hr HT1
  refine wpList_run (v := .tuple #[strV k, .int .i64 e]) (wanted_none rfl) (exec_move rfl rfl) ?_
  simp only [Act.put, List.setIfInBounds_toArray, List.set_cons_zero, List.set_cons_succ]
  refine wpList_run (v := strV k) (wanted_none rfl) (ix_extract rfl rfl rfl) ?_
  simp only [Act.put, List.setIfInBounds_toArray, List.set_cons_zero, List.set_cons_succ]
  refine wpList_run (v := .int .i64 e) (wanted_none rfl) (ix_extract rfl rfl rfl) ?_
  simp only [Act.put, List.setIfInBounds_toArray, List.set_cons_zero, List.set_cons_succ]
  refine wpList_run (v := strV k) (wanted_none rfl) (gx_assign rfl rfl) ?_
  simp only [Act.put, List.setIfInBounds_toArray, List.set_cons_zero, List.set_cons_succ]
  refine wpList_run (v := .int .i64 e) (wanted_none rfl) (gx_assign rfl rfl) ?_
  simp only [Act.put, List.setIfInBounds_toArray, List.set_cons_zero, List.set_cons_succ]
  go_upto_region 3 with fail
  refine wp_region_lit ?_
  refine wpList_run (v := msgV t1 A1 n1 c1) (wanted_none rfl) (gx_loads rfl rfl (blk_range (HBga.out.turn HT2.out (fun e => e))) Tryd.underlying24 rfl (by rw [size_msg]; rfl)) ?_
  simp only [Act.put, List.setIfInBounds_toArray, List.set_cons_zero, List.set_cons_succ]
  have hr := rKey_walk (ty := t1) (c := c1) (HF1.out.still HT2.out) HM1.out.sh
  rw [HK.out] at hr
  refine wpList_op rfl fun K9 HK9 => ?_
  go_wp2_with fail
  refine (hr).mono ?_
  rintro e w4 ⟨rfl, ht⟩
  refine HK9.out _ _ ?_
  clear HK9
  try simp only [Act.put, List.setIfInBounds_toArray, List.set_cons_zero, List.set_cons_succ]
  have HT3 := Lib.hid (HT2.out.trans ht fun _ _ e => e)
  clear ht hr HT2
  refine wpList_run (v := .tuple #[strV k, .int .i64 e]) (wanted_none rfl) (exec_move rfl rfl) ?_
  simp only [Act.put, List.setIfInBounds_toArray, List.set_cons_zero, List.set_cons_succ]
  refine wpList_run (v := strV k) (wanted_none rfl) (ix_extract rfl rfl rfl) ?_
  simp only [Act.put, List.setIfInBounds_toArray, List.set_cons_zero, List.set_cons_succ]
  refine wpList_run (v := .int .i64 e) (wanted_none rfl) (ix_extract rfl rfl rfl) ?_
  simp only [Act.put, List.setIfInBounds_toArray, List.set_cons_zero, List.set_cons_succ]
  refine wpList_run (v := strV k) (wanted_none rfl) (gx_assign rfl rfl) ?_
  simp only [Act.put, List.setIfInBounds_toArray, List.set_cons_zero, List.set_cons_succ]
  refine wpList_run (v := .int .i64 e) (wanted_none rfl) (gx_assign rfl rfl) ?_
  simp only [Act.put, List.setIfInBounds_toArray, List.set_cons_zero, List.set_cons_succ]
  go_upto_region 4 with fail
  refine wp_region_lit ?_
  refine wpList_run (v := msgV t1 A1 n1 c1) (wanted_none rfl) (gx_loads rfl rfl (blk_range (HBga.out.turn HT3.out (fun e => e))) Tryd.underlying24 rfl (by rw [size_msg]; rfl)) ?_
  simp only [Act.put, List.setIfInBounds_toArray, List.set_cons_zero, List.set_cons_succ]
  have hr := Original_walk (ty := t1) (c := c1) (HF1.out.still HT3.out) HM1.out.sh
  rw [HK2.out] at hr
  refine wpList_op rfl fun K9 HK9 => ?_
  go_wp2_with fail
  refine (hr).mono ?_
  rintro e w5 ⟨rfl, ht⟩
  refine HK9.out _ _ ?_
  clear HK9
  try simp only [Act.put, List.setIfInBounds_toArray, List.set_cons_zero, List.set_cons_succ]
  have HT4 := Lib.hid (HT3.out.trans ht fun _ _ e => e)
  clear ht hr HT3
  refine wpList_run (v := .tuple #[strV k2, .int .i64 e2]) (wanted_none rfl) (exec_move rfl rfl) ?_
  simp only [Act.put, List.setIfInBounds_toArray, List.set_cons_zero, List.set_cons_succ]
  refine wpList_run (v := strV k2) (wanted_none rfl) (ix_extract rfl rfl rfl) ?_
  simp only [Act.put, List.setIfInBounds_toArray, List.set_cons_zero, List.set_cons_succ]
  refine wpList_run (v := .int .i64 e2) (wanted_none rfl) (ix_extract rfl rfl rfl) ?_
  simp only [Act.put, List.setIfInBounds_toArray, List.set_cons_zero, List.set_cons_succ]
  refine wpList_run (v := strV k2) (wanted_none rfl) (gx_assign rfl rfl) ?_
  simp only [Act.put, List.setIfInBounds_toArray, List.set_cons_zero, List.set_cons_succ]
  refine wpList_run (v := .int .i64 e2) (wanted_none rfl) (gx_assign rfl rfl) ?_
  simp only [Act.put, List.setIfInBounds_toArray, List.set_cons_zero, List.set_cons_succ]
  go_upto_region 5 with fail
  refine wp_region_lit ?_
  refine wpList_run (v := msgV t1 A1 n1 c1) (wanted_none rfl) (gx_loads rfl rfl (blk_range (HBga.out.turn HT4.out (fun e => e))) Tryd.underlying24 rfl (by rw [size_msg]; rfl)) ?_
  simp only [Act.put, List.setIfInBounds_toArray, List.set_cons_zero, List.set_cons_succ]
  have hr := rOriginal_walk (ty := t1) (c := c1) (HF1.out.still HT4.out) HM1.out.sh
  rw [HK2.out] at hr
  refine wpList_op rfl fun K9 HK9 => ?_
  go_wp2_with fail
  refine (hr).mono ?_
  rintro e w6 ⟨rfl, ht⟩
  refine HK9.out _ _ ?_
  clear HK9
  try simp only [Act.put, List.setIfInBounds_toArray, List.set_cons_zero, List.set_cons_succ]
  have HT5 := Lib.hid (HT4.out.trans ht fun _ _ e => e)
  clear ht hr HT4
  refine wpList_run (v := .tuple #[strV k2, .int .i64 e2]) (wanted_none rfl) (exec_move rfl rfl) ?_
  simp only [Act.put, List.setIfInBounds_toArray, List.set_cons_zero, List.set_cons_succ]
  refine wpList_run (v := strV k2) (wanted_none rfl) (ix_extract rfl rfl rfl) ?_
  simp only [Act.put, List.setIfInBounds_toArray, List.set_cons_zero, List.set_cons_succ]
  refine wpList_run (v := .int .i64 e2) (wanted_none rfl) (ix_extract rfl rfl rfl) ?_
  simp only [Act.put, List.setIfInBounds_toArray, List.set_cons_zero, List.set_cons_succ]
  refine wpList_run (v := strV k2) (wanted_none rfl) (gx_assign rfl rfl) ?_
  simp only [Act.put, List.setIfInBounds_toArray, List.set_cons_zero, List.set_cons_succ]
  refine wpList_run (v := .int .i64 e2) (wanted_none rfl) (gx_assign rfl rfl) ?_
  simp only [Act.put, List.setIfInBounds_toArray, List.set_cons_zero, List.set_cons_succ]
  go_upto_region 6 with fail
  refine wp_region_alw (fun W => Turn nowhere w1 W) (by kernel_rfl) ?_
  have HS5 := Lib.hid HT5.out.drew
  generalize w6.drew = wd at *
  refine alw_take (i := 0) (v := .bool true) rfl (by kernel_rfl) (by kernel_rfl) (fun _ _ _ h => h) (.inl ⟨by rfl, fun W hW => exec_move rfl rfl⟩) HS5.out ?_
  simp only [Act.put, List.setIfInBounds_toArray, List.set_cons_zero, List.set_cons_succ]
  refine alw_take (i := 1) (v := .bool true) rfl (by kernel_rfl) (by kernel_rfl) (fun _ _ _ h => h) (.inl ⟨by rfl, fun W hW => exec_move rfl rfl⟩) HS5.out ?_
  simp only [Act.put, List.setIfInBounds_toArray, List.set_cons_zero, List.set_cons_succ]
  refine alw_take (i := 2) (v := strV k) rfl (by kernel_rfl) (by kernel_rfl) (fun _ _ _ h => h) (.inl ⟨by rfl, fun W hW => exec_move rfl rfl⟩) HS5.out ?_
  simp only [Act.put, List.setIfInBounds_toArray, List.set_cons_zero, List.set_cons_succ]
  refine alw_take (i := 3) (v := strV k) rfl (by kernel_rfl) (by kernel_rfl) (fun _ _ _ h => h) (.inl ⟨by rfl, fun W hW => exec_move rfl rfl⟩) HS5.out ?_
  simp only [Act.put, List.setIfInBounds_toArray, List.set_cons_zero, List.set_cons_succ]
  refine alw_take (i := 4) (v := .bool true) rfl (by kernel_rfl) (by kernel_rfl) (fun _ _ _ h => h) (.inl ⟨by rfl, fun W hW => exec_seqT rfl rfl rfl rfl⟩) HS5.out ?_
  simp only [Act.put, List.setIfInBounds_toArray, List.set_cons_zero, List.set_cons_succ]
  refine alw_take (i := 5) (v := .bool true) rfl (by kernel_rfl) (by kernel_rfl) (fun _ _ _ h => h) (.inl ⟨by rfl, fun W hW => ix_pickT rfl rfl rfl⟩) HS5.out ?_
  simp only [Act.put, List.setIfInBounds_toArray, List.set_cons_zero, List.set_cons_succ]
  refine alw_take (i := 6) (v := .bool true) rfl (by kernel_rfl) (by kernel_rfl) (fun _ _ _ h => h) (.inl ⟨by rfl, fun W hW => exec_move rfl rfl⟩) HS5.out ?_
  simp only [Act.put, List.setIfInBounds_toArray, List.set_cons_zero, List.set_cons_succ]
  refine alw_take (i := 7) (v := .int .i64 e) rfl (by kernel_rfl) (by kernel_rfl) (fun _ _ _ h => h) (.inl ⟨by rfl, fun W hW => exec_move rfl rfl⟩) HS5.out ?_
  simp only [Act.put, List.setIfInBounds_toArray, List.set_cons_zero, List.set_cons_succ]
  refine alw_take (i := 8) (v := .int .i64 e) rfl (by kernel_rfl) (by kernel_rfl) (fun _ _ _ h => h) (.inl ⟨by rfl, fun W hW => exec_move rfl rfl⟩) HS5.out ?_
  simp only [Act.put, List.setIfInBounds_toArray, List.set_cons_zero, List.set_cons_succ]
  refine alw_take (i := 9) (v := .bool true) rfl (by kernel_rfl) (by kernel_rfl) (fun _ _ _ h => h) (.inl ⟨by rfl, fun W hW => ix_eql rfl rfl rfl (decide_eq_true rfl)⟩) HS5.out ?_
  simp only [Act.put, List.setIfInBounds_toArray, List.set_cons_zero, List.set_cons_succ]
  refine alw_take (i := 10) (v := .bool true) rfl (by kernel_rfl) (by kernel_rfl) (fun _ _ _ h => h) (.inl ⟨by rfl, fun W hW => ix_pickT rfl rfl rfl⟩) HS5.out ?_
  simp only [Act.put, List.setIfInBounds_toArray, List.set_cons_zero, List.set_cons_succ]
  refine alw_take (i := 11) (v := .bool true) rfl (by kernel_rfl) (by kernel_rfl) (fun _ _ _ h => h) (.inl ⟨by rfl, fun W hW => exec_move rfl rfl⟩) HS5.out ?_
  simp only [Act.put, List.setIfInBounds_toArray, List.set_cons_zero, List.set_cons_succ]
  refine alw_take (i := 12) (v := strV k2) rfl (by kernel_rfl) (by kernel_rfl) (fun _ _ _ h => h) (.inl ⟨by rfl, fun W hW => exec_move rfl rfl⟩) HS5.out ?_
  simp only [Act.put, List.setIfInBounds_toArray, List.set_cons_zero, List.set_cons_succ]
  refine alw_take (i := 13) (v := strV k2) rfl (by kernel_rfl) (by kernel_rfl) (fun _ _ _ h => h) (.inl ⟨by rfl, fun W hW => exec_move rfl rfl⟩) HS5.out ?_
  simp only [Act.put, List.setIfInBounds_toArray, List.set_cons_zero, List.set_cons_succ]
  refine alw_take (i := 14) (v := .bool true) rfl (by kernel_rfl) (by kernel_rfl) (fun _ _ _ h => h) (.inl ⟨by rfl, fun W hW => exec_seqT rfl rfl rfl rfl⟩) HS5.out ?_
  simp only [Act.put, List.setIfInBounds_toArray, List.set_cons_zero, List.set_cons_succ]
  refine alw_take (i := 15) (v := .bool true) rfl (by kernel_rfl) (by kernel_rfl) (fun _ _ _ h => h) (.inl ⟨by rfl, fun W hW => ix_pickT rfl rfl rfl⟩) HS5.out ?_
  simp only [Act.put, List.setIfInBounds_toArray, List.set_cons_zero, List.set_cons_succ]
  refine alw_take (i := 16) (v := .bool true) rfl (by kernel_rfl) (by kernel_rfl) (fun _ _ _ h => h) (.inl ⟨by rfl, fun W hW => exec_move rfl rfl⟩) HS5.out ?_
  simp only [Act.put, List.setIfInBounds_toArray, List.set_cons_zero, List.set_cons_succ]
  refine alw_take (i := 17) (v := .int .i64 e2) rfl (by kernel_rfl) (by kernel_rfl) (fun _ _ _ h => h) (.inl ⟨by rfl, fun W hW => exec_move rfl rfl⟩) HS5.out ?_
  simp only [Act.put, List.setIfInBounds_toArray, List.set_cons_zero, List.set_cons_succ]
  refine alw_take (i := 18) (v := .int .i64 e2) rfl (by kernel_rfl) (by kernel_rfl) (fun _ _ _ h => h) (.inl ⟨by rfl, fun W hW => exec_move rfl rfl⟩) HS5.out ?_
  simp only [Act.put, List.setIfInBounds_toArray, List.set_cons_zero, List.set_cons_succ]
  refine alw_take (i := 19) (v := .bool true) rfl (by kernel_rfl) (by kernel_rfl) (fun _ _ _ h => h) (.inl ⟨by rfl, fun W hW => ix_eql rfl rfl rfl (decide_eq_true rfl)⟩) HS5.out ?_
  simp only [Act.put, List.setIfInBounds_toArray, List.set_cons_zero, List.set_cons_succ]
  refine alw_take (i := 20) (v := .bool true) rfl (by kernel_rfl) (by kernel_rfl) (fun _ _ _ h => h) (.inl ⟨by rfl, fun W hW => ix_pickT rfl rfl rfl⟩) HS5.out ?_
  simp only [Act.put, List.setIfInBounds_toArray, List.set_cons_zero, List.set_cons_succ]
  refine alw_take (i := 21) (v := .bool true) rfl (by kernel_rfl) (by kernel_rfl) (fun _ _ _ h => h) (.inl ⟨by rfl, fun W hW => exec_move rfl rfl⟩) HS5.out ?_
  simp only [Act.put, List.setIfInBounds_toArray, List.set_cons_zero, List.set_cons_succ]
  refine alw_take (i := 22) (v := msgV t1 A1 n1 c1) rfl (by kernel_rfl) (by kernel_rfl) (fun _ _ _ h => h) (.inl ⟨by rfl, fun W hW => gx_loads rfl rfl (blk_range (HBga.out.turn hW (fun e => e))) Tryd.underlying24 rfl (by rw [size_msg]; rfl)⟩) HS5.out ?_
  simp only [Act.put, List.setIfInBounds_toArray, List.set_cons_zero, List.set_cons_succ]
  refine alw_take (i := 23) (v := msgV t2 A2 n2 c2) rfl (by kernel_rfl) (by kernel_rfl) (fun _ _ _ h => h) (.inl ⟨by rfl, fun W hW => gx_loads rfl rfl (blk_range (HBgb.out.turn hW (fun e => e))) Tryd.underlying24 rfl (by rw [size_msg]; rfl)⟩) HS5.out ?_
  simp only [Act.put, List.setIfInBounds_toArray, List.set_cons_zero, List.set_cons_succ]
  refine alw_take (i := 25) (v := msgV t1 A1 n1 c1) rfl (by kernel_rfl) (by kernel_rfl) (fun _ _ _ h => h) (.inl ⟨by rfl, fun W hW => gx_loads rfl rfl (blk_range (HBga.out.turn hW (fun e => e))) Tryd.underlying24 rfl (by rw [size_msg]; rfl)⟩) HS5.out ?_
  simp only [Act.put, List.setIfInBounds_toArray, List.set_cons_zero, List.set_cons_succ]
  refine alw_take (i := 26) (v := msgV t2 A2 n2 c2) rfl (by kernel_rfl) (by kernel_rfl) (fun _ _ _ h => h) (.inl ⟨by rfl, fun W hW => gx_loads rfl rfl (blk_range (HBgb.out.turn hW (fun e => e))) Tryd.underlying24 rfl (by rw [size_msg]; rfl)⟩) HS5.out ?_
  simp only [Act.put, List.setIfInBounds_toArray, List.set_cons_zero, List.set_cons_succ]
  have hr := Alike_walk (c1 := c1) (c2 := c2) (HF1.out.still HS5.out) (HF2.out.still HS5.out) HM1.out.int HM2.out.int (HCw.out.still HS5.out)
  refine alw_step (i := 24) (by kernel_rfl) rfl rfl ?_
  intro K1 HK1
  go_wp2_with fail
  refine hr.mono ?_
  rintro e w7 ⟨rfl, ht⟩
  clear hr
  have HS6 := Lib.hid (HS5.out.trans ht fun _ _ e => e)
  clear ht
  refine HK1.out _ _ ⟨HS6.out, ?_⟩
  clear HK1
  try simp only [Act.put, List.setIfInBounds_toArray, List.set_cons_zero, List.set_cons_succ]
  have hr := rAlike_walk (c1 := c1) (c2 := c2) (HF1.out.still HS6.out) (HF2.out.still HS6.out) HM1.out.int HM2.out.int
  refine alw_step (i := 27) (by kernel_rfl) rfl rfl ?_
  intro K1 HK1
  go_wp2_with fail
  refine hr.mono ?_
  rintro e w8 ⟨rfl, ht⟩
  clear hr
  have HS7 := Lib.hid (HS6.out.trans ht fun _ _ e => e)
  clear ht
  refine HK1.out _ _ ⟨HS7.out, ?_⟩
  clear HK1
  try simp only [Act.put, List.setIfInBounds_toArray, List.set_cons_zero, List.set_cons_succ]
  refine alw_take (i := 28) (v := .bool true) rfl (by kernel_rfl) (by kernel_rfl) (fun _ _ _ h => h) (.inl ⟨by rfl, fun W hW => bx_eqb rfl rfl rfl (by simp) rfl⟩) HS7.out ?_
  simp only [Act.put, List.setIfInBounds_toArray, List.set_cons_zero, List.set_cons_succ]
  refine alw_take (i := 29) (v := .bool true) rfl (by kernel_rfl) (by kernel_rfl) (fun _ _ _ h => h) (.inl ⟨by rfl, fun W hW => ix_pickT rfl rfl rfl⟩) HS7.out ?_
  simp only [Act.put, List.setIfInBounds_toArray, List.set_cons_zero, List.set_cons_succ]
  refine alw_take (i := 30) (v := .bool true) rfl (by kernel_rfl) (by kernel_rfl) (fun _ _ _ h => h) (.inl ⟨by rfl, fun W hW => exec_move rfl rfl⟩) HS7.out ?_
  simp only [Act.put, List.setIfInBounds_toArray, List.set_cons_zero, List.set_cons_succ]
  refine alw_take (i := 31) (v := msgV t2 A2 n2 c2) rfl (by kernel_rfl) (by kernel_rfl) (fun _ _ _ h => h) (.inl ⟨by rfl, fun W hW => gx_loads rfl rfl (blk_range (HBgb.out.turn hW (fun e => e))) Tryd.underlying24 rfl (by rw [size_msg]; rfl)⟩) HS7.out ?_
  simp only [Act.put, List.setIfInBounds_toArray, List.set_cons_zero, List.set_cons_succ]
  refine alw_take (i := 32) (v := msgV t1 A1 n1 c1) rfl (by kernel_rfl) (by kernel_rfl) (fun _ _ _ h => h) (.inl ⟨by rfl, fun W hW => gx_loads rfl rfl (blk_range (HBga.out.turn hW (fun e => e))) Tryd.underlying24 rfl (by rw [size_msg]; rfl)⟩) HS7.out ?_
  simp only [Act.put, List.setIfInBounds_toArray, List.set_cons_zero, List.set_cons_succ]
  refine alw_take (i := 34) (v := msgV t1 A1 n1 c1) rfl (by kernel_rfl) (by kernel_rfl) (fun _ _ _ h => h) (.inl ⟨by rfl, fun W hW => gx_loads rfl rfl (blk_range (HBga.out.turn hW (fun e => e))) Tryd.underlying24 rfl (by rw [size_msg]; rfl)⟩) HS7.out ?_
  simp only [Act.put, List.setIfInBounds_toArray, List.set_cons_zero, List.set_cons_succ]
  refine alw_take (i := 35) (v := msgV t2 A2 n2 c2) rfl (by kernel_rfl) (by kernel_rfl) (fun _ _ _ h => h) (.inl ⟨by rfl, fun W hW => gx_loads rfl rfl (blk_range (HBgb.out.turn hW (fun e => e))) Tryd.underlying24 rfl (by rw [size_msg]; rfl)⟩) HS7.out ?_
  simp only [Act.put, List.setIfInBounds_toArray, List.set_cons_zero, List.set_cons_succ]
  have hr := Alike_walk (c1 := c2) (c2 := c1) (HF2.out.still HS7.out) (HF1.out.still HS7.out) HM2.out.int HM1.out.int (HCw.out.still HS7.out)
  rw [alike_sym] at hr
  refine alw_step (i := 33) (by kernel_rfl) rfl rfl ?_
  intro K1 HK1
  go_wp2_with fail
  refine hr.mono ?_
  rintro e w9 ⟨rfl, ht⟩
  clear hr
  have HS8 := Lib.hid (HS7.out.trans ht fun _ _ e => e)
  clear ht
  refine HK1.out _ _ ⟨HS8.out, ?_⟩
  clear HK1
  try simp only [Act.put, List.setIfInBounds_toArray, List.set_cons_zero, List.set_cons_succ]
  have hr := Alike_walk (c1 := c1) (c2 := c2) (HF1.out.still HS8.out) (HF2.out.still HS8.out) HM1.out.int HM2.out.int (HCw.out.still HS8.out)
  refine alw_step (i := 36) (by kernel_rfl) rfl rfl ?_
  intro K1 HK1
  go_wp2_with fail
  refine hr.mono ?_
  rintro e w10 ⟨rfl, ht⟩
  clear hr
  have HS9 := Lib.hid (HS8.out.trans ht fun _ _ e => e)
  clear ht
  refine HK1.out _ _ ⟨HS9.out, ?_⟩
  clear HK1
  try simp only [Act.put, List.setIfInBounds_toArray, List.set_cons_zero, List.set_cons_succ]
  refine alw_take (i := 37) (v := .bool true) rfl (by kernel_rfl) (by kernel_rfl) (fun _ _ _ h => h) (.inl ⟨by rfl, fun W hW => bx_eqb rfl rfl rfl (by simp) rfl⟩) HS9.out ?_
  simp only [Act.put, List.setIfInBounds_toArray, List.set_cons_zero, List.set_cons_succ]
  refine alw_take (i := 38) (v := .bool true) rfl (by kernel_rfl) (by kernel_rfl) (fun _ _ _ h => h) (.inl ⟨by rfl, fun W hW => ix_pickT rfl rfl rfl⟩) HS9.out ?_
  simp only [Act.put, List.setIfInBounds_toArray, List.set_cons_zero, List.set_cons_succ]
  refine alw_take (i := 39) (v := .bool true) rfl (by kernel_rfl) (by kernel_rfl) (fun _ _ _ h => h) (.inl ⟨by rfl, fun W hW => gx_assign rfl rfl⟩) HS9.out ?_
  simp only [Act.put, List.setIfInBounds_toArray, List.set_cons_zero, List.set_cons_succ]
  refine alw_done rfl ?_
  refine NoPanic.normal ?_
  go_wp2_with fail
  go_ret
  exact ⟨rfl, (HT0.out.trans HS9.out fun _ _ e => e).below (Nat.le_refl _) (fun _ _ e => e)⟩
end Go.Proofs.YtjjbmnoamcfdgaaDoor
