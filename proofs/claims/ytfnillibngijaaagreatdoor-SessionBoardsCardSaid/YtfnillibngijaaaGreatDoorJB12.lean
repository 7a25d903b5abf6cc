/-
  Texts in one file: MsFa Pure Lays FdA. Conditions: the tables and the errors read as the program's text lays them.
-/
import Derived.Test.YtfnillibngijaaaGreatDoorJB11
import Derived.Test.YtfnillibngijaaaGreatDoorJB1
import Derived.Laws.ResultCell
import Derived.Test.YtfnillibngijaaaGreatDoorJB0
import Derived.Shelf.Strings.SlTrimAscii
import Derived.Shelf.Small.Strs
import Derived.Shelf.Strconv.Atoi
import Derived.Shelf.Strconv.AtoiErr
import Derived.Shelf.LaysM
import Derived.Shelf.LaysC
import Derived.Shelf.Strconv.Itoa3
import Derived.Shelf.Strings.Repeat
import Derived.Ground.SlbCloneProg
import Derived.Shelf.Bytes.SlClone
import Derived.Test.YtfnillibngijaaaGreatDoorProg
import Derived.Test.YtfnillibngijaaaGreatDoorJB10
namespace Go.Proofs.YtfnillibngijaaaGreatDoor
open Go.RowKit
open Fdd
set_option linter.unusedVariables false
set_option linter.unusedSimpArgs false
theorem ret_cell2 {P : Program} {fn : Func} {p u : Tmp} {ty : TypeId} (h : fn.results = #[.cell p ty, .tmp u]) (tmps : Array Value) (w : World) (g : Nat) (t : TypeId) (cs : Array Value) (d : TypeDesc) {v : Value}
    (hp : tmps.getD p undef = .pointer (some ⟨g, 0, none⟩)) (hv : tmps.getD u undef = v) (hg : Blk w g t cs) (hu : P.underlying ty = some d) (hd : (match d with | .struct _ | .array _ _ => true | _ => false) = true) (hi : (P.info? ty).map (·.size) = some cs.size) :
    (results fn tmps).run P w = .ok (.tuple #[.agg cs, v]) w := by
  subst hv
  have hp' : tmps[p]?.getD undef = .pointer (some ⟨g, 0, none⟩) := by simpa using hp
  rw [results_cell_tmp h]
  simp [hp', asAddr, run_loadVar_row w g t ty cs (0, 0) d hg hu hd hi, Result.andThen]
theorem gx_aaddr {P : Program} {a : Act} {o : Oper} {W : World} {t e : TypeId} {x y : Operand} {b off n i sz m : Nat} {k : IntKind} (ho : o.op = .indexAddr t x y) (hx : a.eval x = .pointer (some ⟨b, off, none⟩)) (hy : a.eval y = .int k (i : Int))
    (ht : P.underlying t = some (.array n e)) (hs : (P.info? e).map (·.size) = some sz) (hi : i < n) (hm : off + i * sz = m) : (execOp a.eval o).run P W = .ok (.value (.pointer (some ⟨b, m, none⟩))) W := by
  obtain ⟨j, hj, hjs⟩ := Option.map_eq_some_iff.1 hs
  subst hm
  unfold execOp
  simp [ho, hx, hy, Instr.indexAt, run_underlying ht, asIntOf, sizeOf, typeInfo, hj, hjs, hi, add_nat, Result.andThen, Instr.sureAddr]
theorem gx_loads {P : Program} {a : Act} {o : Oper} {W : World} {ty : TypeId} {x : Operand} {b off : Nat} {cs : List Value} {d : TypeDesc} (ho : o.op = .load ty x) (hx : a.eval x = .pointer (some ⟨b, off, none⟩)) (hr : W.rangeAt b off cs)
    (hu : P.underlying ty = some d) (hd : d.isRow = true) (hi : (P.info? ty).map (·.size) = some cs.length) : (execOp a.eval o).run P W = .ok (.value (.agg cs.toArray)) W :=
  exec_load ho hx (run_loadAt_mid W b off ty cs d hr hu hd hi)
theorem wp_store_rowU {P : Program} {o : Oper} {a : Act} {w : World} {K : Act → World → Prop} {Q : Exit → Act → World → Prop} (ty : TypeId) (x y : Operand) (ho : o.op = .store ty x y) {g : Nat} {t : TypeId} {old : Array Value} (cells : Array Value) (hb : Blk w g t old)
    (hx : a.eval x = .pointer (some ⟨g, 0, none⟩)) (hy : a.eval y = .agg cells) (hs : old.size = cells.size) (hi : (P.info? ty).map (·.size) = some cells.size) (h1 : ∀ v ∈ cells.toList, v.oneCell' = true)
    (h : ∀ w', Blk w' g t cells → Turn (only g) w w' → K (a.put o.dst undef) w') : o.wp P a w K Q := by
  obtain ⟨w', hr, h2, h3⟩ := run_store_row (P := P) hb hs hi h1
  unfold Oper.wp execOp
  simp only [ho, hx, hy, hr, Sem.run_bind, Sem.run_pure, Result.andThen_ok]
  exact h w' h2 h3
theorem exec_bld {P : Program} {a : Act} {o : Oper} {t : TypeId} {r : Value} {W : World} (ho : o.op = .build t #[]) (h : (Instr.build t #[]).run P W = .ok r W) : (execOp a.eval o).run P W = .ok (.value r) W := by
  unfold execOp
  simp only [ho, List.map_toArray, List.map_nil, h, Sem.run_bind, Sem.run_pure, Result.andThen_ok]
theorem zeroT_one : ∀ v ∈ (#[.int .i64 0, strV [], strV []] : Array Value).toList, v.oneCell' = true := fun v hv => by
  simp only [List.mem_cons, List.not_mem_nil, or_false] at hv
  rcases hv with rfl | rfl | rfl <;> rfl
theorem size_tongue : (Tryz.prog.info? 98).map (·.size) = some 3 := by kernel_rfl
theorem size_form : (Tryz.prog.info? 104).map (·.size) = some 3 := by kernel_rfl
theorem zero_tongue (w : World) : (zeroValue 98).run Tryz.prog w = .ok (.agg #[.int .i64 0, strV [], strV []]) w := by kernel_rfl
theorem build_tongue0 (W : World) : (Instr.build 98 #[]).run Tryz.prog W = .ok (.agg #[.int .i64 0, strV [], strV []]) W := by kernel_rfl
def tongA (d : Nat) : Array Value := #[.int .i64 (d : Int), strV (ver d), strV (unsaid d 4)]
def tongV (d : Nat) : Value := .agg (tongA d)
def errS (a : Addr) : Value := .iface 237 (.pointer (some a))
theorem tongA_one (d : Nat) : ∀ v ∈ (tongA d).toList, v.oneCell' = true := fun v hv => by
  unfold tongA at hv
  simp only [List.mem_cons, List.not_mem_nil, or_false] at hv
  rcases hv with rfl | rfl | rfl <;> rfl
theorem tong_cells {W : World} (h : Tab W) {d : Nat} (hd : 1 ≤ d ∧ d ≤ 3) : W.cell? ⟨6, 3 * d, none⟩ = some (.int .i64 (d : Int)) ∧ W.cell? ⟨6, 3 * d + 1, none⟩ = some (strV (ver d)) ∧ W.cell? ⟨6, 3 * d + 2, none⟩ = some (strV (unsaid d 4)) := by
  have hc : d = 1 ∨ d = 2 ∨ d = 3 := by omega
  rcases hc with rfl | rfl | rfl
  · exact ⟨h.tongues 3 _ rfl, h.tongues 4 _ rfl, h.tongues 5 _ rfl⟩
  · exact ⟨h.tongues 6 _ rfl, h.tongues 7 _ rfl, h.tongues 8 _ rfl⟩
  · exact ⟨h.tongues 9 _ rfl, h.tongues 10 _ rfl, h.tongues 11 _ rfl⟩
theorem tong_range {W : World} (h : Tab W) {d : Nat} (hd : 1 ≤ d ∧ d ≤ 3) : W.rangeAt 6 (d * 3) (tongA d).toList := by
  obtain ⟨c0, c1, c2⟩ := tong_cells h hd
  rw [Nat.mul_comm] at c0 c1 c2
  intro j v hj
  match j, hj with
  | 0, hj => injection hj with hj; subst hj; exact c0
  | 1, hj => injection hj with hj; subst hj; exact c1
  | 2, hj => injection hj with hj; subst hj; exact c2
set_option maxRecDepth 20000 in
theorem tongueOf_ok {s : Sents} {w : World} {d : Nat} (hd : 1 ≤ d ∧ d ≤ 3) (ht : Tab w) :
    Calls Tryz.prog 43 #[.int .i64 (d : Int)] w fun e w' => e = .returned (.tuple #[tongV d, .nilIface]) ∧ Turn nowhere w w' := by
  have HT := Lib.hid ht
  have HD := Lib.hid hd
  have y1 : ¬ ((d : Int) < 1) := by omega
  have y2 : ¬ (4 ≤ (d : Int)) := by omega
  have y3 : (d : Int) < 4 := by omega
  have y4 : (0 : Int) ≤ (d : Int) := by omega
  clear ht hd
  go_enter Tryz.func43, Tryz.ntmps43
  go_upto_region 3 with fail
  have hT1 := HT.out.turn ((Turn.refl nowhere w).alloc (.cells #[.int .i64 0, strV [], strV []] 98))
  have hB1 := Blk.new w 98 #[.int .i64 0, strV [], strV []]
  have hU1 := (Turn.refl nowhere w).alloc (.cells #[.int .i64 0, strV [], strV []] 98)
  obtain ⟨b0, hb00⟩ : ∃ b0, b0 = w.heap.size := ⟨_, rfl⟩
  rw [← hb00] at hB1 ⊢
  have HG := Lib.hid hb00
  have HB := Lib.hid hB1
  have HU := Lib.hid hU1
  have HR := Lib.hid (tong_range hT1 HD.out)
  clear hb00 hT1 hB1 hU1
  change Code.wp _ _ _ _ (w.alloc (.cells #[.int .i64 0, strV [], strV []] 98))
  generalize World.alloc w (.cells #[.int .i64 0, strV [], strV []] 98) = w1 at *
  refine wp_region_lit ?_
  refine wpList_run (v := .int .i64 (d : Int)) rfl (exec_move rfl rfl) ?_
  simp only [Act.put, List.setIfInBounds_toArray, List.set_cons_zero, List.set_cons_succ]
  refine wpList_run (v := .pointer (some ⟨6, d * 3, none⟩)) rfl (gx_aaddr (i := d) (off := 0) rfl rfl rfl Tryz.underlying122 size_tongue (by have := HD.out; omega) (by omega)) ?_
  simp only [Act.put, List.setIfInBounds_toArray, List.set_cons_zero, List.set_cons_succ]
  refine wpList_run (v := tongV d) rfl (gx_loads rfl rfl HR.out Tryz.underlying98 rfl (by rw [size_tongue]; rfl)) ?_
  simp only [Act.put, List.setIfInBounds_toArray, List.set_cons_zero, List.set_cons_succ]
  refine wpList_store_row rfl 98 (.tmp 2) (.tmp 14) rfl (tongA d) HB.out rfl rfl rfl (by rw [size_tongue]; rfl) (tongA_one d) ?_
  intro w2 hB2 hU2
  have HB2 := Lib.hid hB2
  have HU2 := Lib.hid (HU.out.trans hU2 (fun k hk e => by
    have := HG.out
    have e : k = b0 := e
    omega))
  clear hB2 hU2
  simp only [Act.put, List.setIfInBounds_toArray, List.set_cons_zero, List.set_cons_succ]
  go_wp2_with fail
  refine bodyPost_ret (v := .tuple #[tongV d, .nilIface]) (ret_cell2 rfl _ _ b0 _ _ _ rfl rfl HB2.out Tryz.underlying98 rfl (by rw [size_tongue]; rfl)) rfl ?_
  exact ⟨rfl, HU2.out⟩
set_option maxRecDepth 20000 in
theorem tongueOf_bad {s : Sents} {w : World} {d : Int} (hd : ¬ (1 ≤ d ∧ d ≤ 3)) (hs : Sen s w) :
    Calls Tryz.prog 43 #[.int .i64 d] w fun e w' => e = .returned (.tuple #[.agg #[.int .i64 0, strV [], strV []], errS s.dialect]) ∧ Turn nowhere w w' := by
  have hS1 := hs.turn ((Turn.refl nowhere w).alloc (.cells #[.int .i64 0, strV [], strV []] 98))
  have hB1 := Blk.new w 98 #[.int .i64 0, strV [], strV []]
  have hU1 := (Turn.refl nowhere w).alloc (.cells #[.int .i64 0, strV [], strV []] 98)
  obtain ⟨b0, hb00⟩ : ∃ b0, b0 = w.heap.size := ⟨_, rfl⟩
  rw [← hb00] at hB1
  have HLT : Hid (0 < b0) := Lib.hid (by rw [hb00]; exact World.block_lt_of_cell? _ _ hs.dialect.1)
  have HG := Lib.hid hb00
  have HB := Lib.hid hB1
  have HU := Lib.hid hU1
  have HS := Lib.hid hS1
  clear hS1 hB1 hU1 hs
  by_cases h1 : d < 1
  · clear hd
    go_enter Tryz.func43, Tryz.ntmps43
    go_upto_region 2 with fail
    rw [← hb00]
    clear hb00
    change Code.wp _ _ _ _ (w.alloc (.cells #[.int .i64 0, strV [], strV []] 98))
    generalize World.alloc w (.cells #[.int .i64 0, strV [], strV []] 98) = w1 at *
    have hS0 : w1.drew.cell? ⟨0, 0, none⟩ = some (errS s.dialect) := HS.out.dialect.1
    have HBd : Hid (Blk w1.drew b0 98 #[.int .i64 0, strV [], strV []]) := Lib.hid HB.out.drew
    have HUd : Hid (Turn nowhere w w1.drew) := Lib.hid HU.out.drew
    clear HB HU HS
    refine wp_region_alw (fun W => W.cell? ⟨0, 0, none⟩ = some (errS s.dialect)) (by kernel_rfl) ?_
    generalize w1.drew = w3 at *
    refine alw_take (i := 0) (v := .agg #[.int .i64 0, strV [], strV []]) rfl (by kernel_rfl) (by kernel_rfl) (fun _ _ _ h => h) (.inl ⟨by rfl, fun W hW => exec_bld rfl (build_tongue0 _)⟩) hS0 ?_
    simp only [Act.put, List.setIfInBounds_toArray, List.set_cons_zero, List.set_cons_succ]
    refine alw_take (i := 1) (v := errS s.dialect) rfl (by kernel_rfl) (by kernel_rfl) (fun _ _ _ h => h) (.inl ⟨by rfl, fun W hW => exec_load1 rfl rfl (by kernel_rfl) hW⟩) hS0 ?_
    simp only [Act.put, List.setIfInBounds_toArray, List.set_cons_zero, List.set_cons_succ]

    refine alw_step (i := 2) (by kernel_rfl) rfl rfl ?_
    intro K1 HK1
    refine wp_store_rowU 98 (.tmp 2) (.tmp 10) rfl #[.int .i64 0, strV [], strV []] HBd.out rfl rfl rfl (by rw [size_tongue]; rfl) (zeroT_one) ?_
    intro w2 hB2 hU2
    have hS1 : w2.cell? ⟨0, 0, none⟩ = some (errS s.dialect) := (hU2.cell (World.block_lt_of_cell? _ _ hS0) (fun e => by
      have e : 0 = b0 := e
      have := HLT.out
      omega)).trans hS0
    have HB2 := Lib.hid hB2
    have HU2 := Lib.hid (HUd.out.trans hU2 (fun k hk e => by
      have := HG.out
      have e : k = b0 := e
      omega))
    clear hB2 hU2 HUd HBd hS0
    refine HK1.out _ _ ⟨hS1, ?_⟩
    clear HK1
    simp only [Act.put, List.setIfInBounds_toArray, List.set_cons_zero, List.set_cons_succ]
    refine alw_take (i := 3) (v := errS s.dialect) rfl (by kernel_rfl) (by kernel_rfl) (fun _ _ _ h => h) (.inl ⟨by rfl, fun W hW => gx_assign rfl rfl⟩) hS1 ?_
    simp only [Act.put, List.setIfInBounds_toArray, List.set_cons_zero, List.set_cons_succ]

    refine alw_done rfl ?_
    clear hS1
    refine NoPanic.normal ?_
    go_wp2_with fail
    refine bodyPost_ret (v := .tuple #[.agg #[.int .i64 0, strV [], strV []], errS s.dialect]) (ret_cell2 rfl _ _ b0 _ _ _ rfl rfl HB2.out Tryz.underlying98 rfl (by rw [size_tongue]; rfl)) rfl ?_
    exact ⟨rfl, HU2.out⟩
  · have h2 : 4 ≤ d := by omega
    clear hd
    go_enter Tryz.func43, Tryz.ntmps43
    go_upto_region 2 with fail
    rw [← hb00]
    clear hb00
    change Code.wp _ _ _ _ (w.alloc (.cells #[.int .i64 0, strV [], strV []] 98))
    generalize World.alloc w (.cells #[.int .i64 0, strV [], strV []] 98) = w1 at *
    have hS0 : w1.drew.cell? ⟨0, 0, none⟩ = some (errS s.dialect) := HS.out.dialect.1
    have HBd : Hid (Blk w1.drew b0 98 #[.int .i64 0, strV [], strV []]) := Lib.hid HB.out.drew
    have HUd : Hid (Turn nowhere w w1.drew) := Lib.hid HU.out.drew
    clear HB HU HS
    refine wp_region_alw (fun W => W.cell? ⟨0, 0, none⟩ = some (errS s.dialect)) (by kernel_rfl) ?_
    generalize w1.drew = w3 at *
    refine alw_take (i := 0) (v := .agg #[.int .i64 0, strV [], strV []]) rfl (by kernel_rfl) (by kernel_rfl) (fun _ _ _ h => h) (.inl ⟨by rfl, fun W hW => exec_bld rfl (build_tongue0 _)⟩) hS0 ?_
    simp only [Act.put, List.setIfInBounds_toArray, List.set_cons_zero, List.set_cons_succ]
    refine alw_take (i := 1) (v := errS s.dialect) rfl (by kernel_rfl) (by kernel_rfl) (fun _ _ _ h => h) (.inl ⟨by rfl, fun W hW => exec_load1 rfl rfl (by kernel_rfl) hW⟩) hS0 ?_
    simp only [Act.put, List.setIfInBounds_toArray, List.set_cons_zero, List.set_cons_succ]

    refine alw_step (i := 2) (by kernel_rfl) rfl rfl ?_
    intro K1 HK1
    refine wp_store_rowU 98 (.tmp 2) (.tmp 10) rfl #[.int .i64 0, strV [], strV []] HBd.out rfl rfl rfl (by rw [size_tongue]; rfl) (zeroT_one) ?_
    intro w2 hB2 hU2
    have hS1 : w2.cell? ⟨0, 0, none⟩ = some (errS s.dialect) := (hU2.cell (World.block_lt_of_cell? _ _ hS0) (fun e => by
      have e : 0 = b0 := e
      have := HLT.out
      omega)).trans hS0
    have HB2 := Lib.hid hB2
    have HU2 := Lib.hid (HUd.out.trans hU2 (fun k hk e => by
      have := HG.out
      have e : k = b0 := e
      omega))
    clear hB2 hU2 HUd HBd hS0
    refine HK1.out _ _ ⟨hS1, ?_⟩
    clear HK1
    simp only [Act.put, List.setIfInBounds_toArray, List.set_cons_zero, List.set_cons_succ]
    refine alw_take (i := 3) (v := errS s.dialect) rfl (by kernel_rfl) (by kernel_rfl) (fun _ _ _ h => h) (.inl ⟨by rfl, fun W hW => gx_assign rfl rfl⟩) hS1 ?_
    simp only [Act.put, List.setIfInBounds_toArray, List.set_cons_zero, List.set_cons_succ]

    refine alw_done rfl ?_
    clear hS1
    refine NoPanic.normal ?_
    go_wp2_with fail
    refine bodyPost_ret (v := .tuple #[.agg #[.int .i64 0, strV [], strV []], errS s.dialect]) (ret_cell2 rfl _ _ b0 _ _ _ rfl rfl HB2.out Tryz.underlying98 rfl (by rw [size_tongue]; rfl)) rfl ?_
    exact ⟨rfl, HU2.out⟩
end Go.Proofs.YtfnillibngijaaaGreatDoor
namespace Go.Proofs.YtfnillibngijaaaGreatDoor
open Go.RowKit
set_option linter.unusedVariables false
section
variable {P : Program} {md : Region.Mode} {ops : Array Oper} {Q : Exit → Act → World → Prop} {S : World → Prop} {k : Nat}
theorem till_pureAt {i : Nat} {o : Oper} {v : Value} (hi : ops[i]? = some o) (hsel : ∀ (j : Nat) (o : Oper) cs b, ops[j]? = some o → o.op ≠ .select cs b) (hki : k ≠ i) :
    ∀ (n : Nat) (l : Array Bool) (a : Act) (w : World), 
      (∀ j oj, ops[j]? = some oj → j ≠ i → l.getD j true = false → (∀ e ∈ oj.after, Region.binds md e = true → e.on ≠ i) → o.apart ops oj = true) →
      i ∈ Region.ready md ops l → YieldsIf P ops (fun _ => True) o v a → (l.getD k true = false → S w) → (∀ c a w, Q (.panic c) (a.put o.dst v) w → Q (.panic c) a w) →
      Till P md ops Q S k n (l.setIfInBounds i true) (a.put o.dst v) w → Till P md ops Q S k (n + 1) l a w := by
  have hread : ∀ (l : Array Bool) (j : Nat), i ∈ Region.ready md ops l → j ∈ Region.ready md ops l → j ≠ i → ∃ oj, ops[j]? = some oj ∧ l.getD j true = false ∧ ∀ e ∈ oj.after, Region.binds md e = true → e.on ≠ i := by
    intro l j hr hj hji
    obtain ⟨h0, oj, hoj, hall⟩ := mem_ready.1 hj
    have hun := (mem_ready.1 hr).1
    refine ⟨oj, hoj, h0, fun e he hb heq => ?_⟩
    have h2 := hall e he hb
    rw [heq] at h2
    rcases Nat.lt_or_ge i l.size with hlt | hge
    · rw [Array.getD_eq_getD_getElem?, Array.getElem?_eq_getElem hlt] at h2 hun
      simp only [Option.getD_some] at h2 hun
      rw [h2] at hun
      cases hun
    · rw [Array.getD_eq_getD_getElem?, Array.getElem?_eq_none hge] at h2
      cases h2
  intro n
  induction n with
  | zero =>
    intro l a w _ hr hy hS _ H
    refine ⟨fun h => (by rw [h] at hr; cases hr), fun j hj => ?_⟩
    by_cases hji : j = i
    · subst hji
      exact hy.wpOp hi trivial ⟨fun e => hS (by rwa [getD_set_ne true hki.symm] at e), H⟩
    · have := ready_mono hj hji
      rw [H.1] at this
      cases this
  | succ n ih =>
    intro l a w hfree hr hy hS hQ H
    refine ⟨fun h => (by rw [h] at hr; cases hr), fun j hj => ?_⟩
    by_cases hji : j = i
    · subst hji
      exact hy.wpOp hi trivial ⟨fun e => hS (by rwa [getD_set_ne true hki.symm] at e), H⟩
    · obtain ⟨oj, hoj, hjun, hno⟩ := hread l j hr hj hji
      have h1 := H.2 j (ready_mono hj hji)
      have h2 := wpOp_putIf (S := fun _ => True) hoj (hfree j oj hoj hji hjun hno) (fun cs b => hsel i o cs b hi) (fun cs b => hsel j oj cs b hoj) hQ hy h1
      refine wpOp_mono (fun a' w' h3 => ⟨fun e => ?_, ih (l.setIfInBounds j true) a' w' ?_ (ready_mono hr (Ne.symm hji)) h3.1 (fun e => ?_) hQ ?_⟩) h2
      · exact h3.2.1 (by rw [Array.setIfInBounds_comm _ _ (Ne.symm hji), getD_set_ne true hki.symm]; exact e)
      · intro m om hm hmi hun hn
        refine hfree m om hm hmi ?_ hn
        by_cases hjm : j = m
        · subst hjm
          exact hjun
        · rwa [getD_set_ne true hjm] at hun
      · exact h3.2.1 (by rw [Array.setIfInBounds_comm _ _ (Ne.symm hji), getD_set_ne true hki.symm]; exact e)
      · rw [Array.setIfInBounds_comm _ _ hji]
        exact h3.2.2
theorem till_pure {i : Nat} {o : Oper} {v : Value} {n : Nat} {l : Array Bool} {a : Act} {w : World} (hi0 : ops.toList[i]? = some o) (hs : Region.noSelect ops = true)
    (hf : (Region.free md ops l i && (Region.ready md ops l).contains i && decide (k ≠ i)) = true)
    (hQ : ∀ c a w, Q (.panic c) (a.put o.dst v) w → Q (.panic c) a w) (hy : YieldsIf P ops (fun _ => True) o v a) (hS : S w)
    (h : Till P md ops Q S k n (l.setIfInBounds i true) (a.put o.dst v) w) : Till P md ops Q S k (n + 1) l a w := by
  have hi : ops[i]? = some o := by rw [← hi0, Array.getElem?_toList]
  simp only [Bool.and_eq_true, decide_eq_true_eq] at hf
  obtain ⟨⟨h1, h2⟩, h5⟩ := hf
  exact till_pureAt hi (Region.noSelect_spec hs) h5 n l a w (Region.free_spec hi h1) (by simpa using h2) hy (fun _ => hS) hQ h
/-- a read that k waits for by way of m -/
theorem till_first2 {i m : Nat} {o : Oper} {v : Value} (hi : ops[i]? = some o) (hsel : ∀ (j : Nat) (o : Oper) cs b, ops[j]? = some o → o.op ≠ .select cs b) (hki : k ≠ i) (hmi : m ≠ i)
    (hm : ∃ om, ops[m]? = some om ∧ ∃ e ∈ om.after, Region.binds md e = true ∧ e.on = i) (hk : ∃ ok, ops[k]? = some ok ∧ ∃ e ∈ ok.after, Region.binds md e = true ∧ e.on = m) :
    ∀ (n : Nat) (l : Array Bool) (a : Act) (w : World), l.getD k true = false → l.getD m true = false →
      (∀ j oj, ops[j]? = some oj → j ≠ i → l.getD j true = false → (∀ e ∈ oj.after, Region.binds md e = true → e.on ≠ i) → o.apart ops oj = true) →
      i ∈ Region.ready md ops l → YieldsIf P ops S o v a → S w → (∀ c a w, Q (.panic c) (a.put o.dst v) w → Q (.panic c) a w) →
      Till P md ops Q S k n (l.setIfInBounds i true) (a.put o.dst v) w → Till P md ops Q S k (n + 1) l a w := by
  have hwait : ∀ (l : Array Bool) (x j : Nat) (oj : Oper), l.getD x true = false → ops[j]? = some oj → (∀ e ∈ oj.after, Region.binds md e = true → l.getD e.on false = true) → ∀ e ∈ oj.after, Region.binds md e = true → e.on ≠ x := by
    intro l x j oj hun hoj hall e he hb heq
    have h2 := hall e he hb
    rw [heq] at h2
    rcases Nat.lt_or_ge x l.size with hlt | hge
    · rw [Array.getD_eq_getD_getElem?, Array.getElem?_eq_getElem hlt] at h2 hun
      simp only [Option.getD_some] at h2 hun
      rw [h2] at hun
      cases hun
    · rw [Array.getD_eq_getD_getElem?, Array.getElem?_eq_none hge] at h2
      cases h2
  have hread : ∀ (l : Array Bool) (j : Nat), l.getD m true = false → i ∈ Region.ready md ops l → j ∈ Region.ready md ops l → j ≠ i → ∃ oj, ops[j]? = some oj ∧ l.getD j true = false ∧ j ≠ k ∧ j ≠ m ∧ ∀ e ∈ oj.after, Region.binds md e = true → e.on ≠ i := by
    intro l j hml hr hj hji
    obtain ⟨h0, oj, hoj, hall⟩ := mem_ready.1 hj
    have hno := hwait l i j oj (mem_ready.1 hr).1 hoj hall
    have hnm := hwait l m j oj hml hoj hall
    refine ⟨oj, hoj, h0, ?_, ?_, hno⟩
    · rintro rfl
      obtain ⟨ok, hok, e, he, hb, hon⟩ := hk
      rw [hoj] at hok
      injection hok with hok
      subst hok
      exact hnm e he hb hon
    · rintro rfl
      obtain ⟨ok, hok, e, he, hb, hon⟩ := hm
      rw [hoj] at hok
      injection hok with hok
      subst hok
      exact hno e he hb hon
  intro n
  induction n with
  | zero =>
    intro l a w hkl hml _ hr hy hS _ H
    refine ⟨fun h => (by rw [h] at hr; cases hr), fun j hj => ?_⟩
    by_cases hji : j = i
    · subst hji
      exact hy.wpOp hi hS ⟨fun _ => hS, H⟩
    · have := ready_mono hj hji
      rw [H.1] at this
      cases this
  | succ n ih =>
    intro l a w hkl hml hfree hr hy hS hQ H
    refine ⟨fun h => (by rw [h] at hr; cases hr), fun j hj => ?_⟩
    by_cases hji : j = i
    · subst hji
      exact hy.wpOp hi hS ⟨fun _ => hS, H⟩
    · obtain ⟨oj, hoj, hjun, hjk, hjm0, hno⟩ := hread l j hml hr hj hji
      have h1 := H.2 j (ready_mono hj hji)
      have h2 := wpOp_putIf hoj (hfree j oj hoj hji hjun hno) (fun cs b => hsel i o cs b hi) (fun cs b => hsel j oj cs b hoj) hQ hy h1
      have hk' : (l.setIfInBounds j true).getD k true = false := by rw [getD_set_ne true hjk]; exact hkl
      have hm' : (l.setIfInBounds j true).getD m true = false := by rw [getD_set_ne true hjm0]; exact hml
      have hk2 : ((l.setIfInBounds i true).setIfInBounds j true).getD k true = false := by rw [getD_set_ne true hjk, getD_set_ne true (Ne.symm hki)]; exact hkl
      refine wpOp_mono (fun a' w' h3 => ⟨fun _ => h3.2.1 hk2, ih (l.setIfInBounds j true) a' w' hk' hm' ?_ (ready_mono hr (Ne.symm hji)) h3.1 (h3.2.1 hk2) hQ ?_⟩) h2
      · intro q om hq hqi hun hn
        refine hfree q om hq hqi ?_ hn
        by_cases hjm : j = q
        · subst hjm
          exact hjun
        · rwa [getD_set_ne true hjm] at hun
      · rw [Array.setIfInBounds_comm _ _ hji]
        exact h3.2.2
theorem till_take2 (m : Nat) {i : Nat} {o : Oper} {v : Value} {n : Nat} {l : Array Bool} {a : Act} {w : World} (hi0 : ops.toList[i]? = some o) (hs : Region.noSelect ops = true)
    (hf : (Region.free md ops l i && (Region.ready md ops l).contains i && Region.waitsFor md ops m i && Region.waitsFor md ops k m && !(l.getD k true) && !(l.getD m true) && decide (k ≠ i) && decide (m ≠ i)) = true)
    (hQ : ∀ c a w, Q (.panic c) (a.put o.dst v) w → Q (.panic c) a w) (hy : YieldsIf P ops S o v a) (hS : S w)
    (h : Till P md ops Q S k n (l.setIfInBounds i true) (a.put o.dst v) w) : Till P md ops Q S k (n + 1) l a w := by
  have hi : ops[i]? = some o := by rw [← hi0, Array.getElem?_toList]
  simp only [Bool.and_eq_true, decide_eq_true_eq, Bool.not_eq_true'] at hf
  obtain ⟨⟨⟨⟨⟨⟨⟨h1, h2⟩, h3⟩, h4⟩, h5⟩, h6⟩, h7⟩, h8⟩ := hf
  exact till_first2 hi (Region.noSelect_spec hs) h7 h8 (Region.waitsFor_spec h3) (Region.waitsFor_spec h4) n l a w h5 h6 (Region.free_spec hi h1) (by simpa using h2) hy hS hQ h
end
end Go.Proofs.YtfnillibngijaaaGreatDoor
namespace Go.Proofs.YtfnillibngijaaaGreatDoor
open Go.Shelf
def Tryz.lays161_ren : Go.Shelf.Ren := ⟨fun | 161 => 98 | 231 => 107 | 227 => 108 | 233 => 109 | 235 => 110 | 228 => 125 | 197 => 126 | 151 => 127 | 260 => 134 | 152 => 135 | 137 => 118 | 119 => 139 | 224 => 140 | 225 => 141 | 217 => 133 | 266 => 138 | n => n, fun | 9 => 9 | 4 => 4 | 3 => 3 | 5 => 5 | 117 => 208 | 116 => 207 | 0 => 0 | 124 => 211 | 105 => 222 | 21 => 21 | 119 => 231 | 46 => 94 | 139 => 234 | 138 => 233 | n => n, fun | 3 => 16 | 4 => 17 | n => n⟩
theorem Tryz.lays161 : Go.Proofs.Lays.n161 Tryz.prog Tryz.lays161_ren := {
  mixed := by kernel_rfl
  f119 := Tryz.func139.trans (congrArg some (by kernel_rfl))
  f137 := Tryz.func118.trans (congrArg some (by kernel_rfl))
  f151 := Tryz.func127.trans (congrArg some (by kernel_rfl))
  f152 := Tryz.func135.trans (congrArg some (by kernel_rfl))
  f161 := Tryz.func98.trans (congrArg some (by kernel_rfl))
  f197 := Tryz.func126.trans (congrArg some (by kernel_rfl))
  f217 := Tryz.func133.trans (congrArg some (by kernel_rfl))
  f224 := Tryz.func140.trans (congrArg some (by kernel_rfl))
  f225 := Tryz.func141.trans (congrArg some (by kernel_rfl))
  f227 := Tryz.func108.trans (congrArg some (by kernel_rfl))
  f228 := Tryz.func125.trans (congrArg some (by kernel_rfl))
  f231 := Tryz.func107.trans (congrArg some (by kernel_rfl))
  f233 := Tryz.func109.trans (congrArg some (by kernel_rfl))
  f235 := Tryz.func110.trans (congrArg some (by kernel_rfl))
  f260 := Tryz.func134.trans (congrArg some (by kernel_rfl))
  f266 := Tryz.func138.trans (congrArg some (by kernel_rfl))
  t0 := Tryz.underlying0
  a0 := Tryz.isAgg0
  z0 := Tryz.sizeOf0
  v0 := Tryz.zeroValue0
  t3 := Tryz.underlying3
  a3 := Tryz.isAgg3
  z3 := Tryz.sizeOf3
  v3 := Tryz.zeroValue3
  t4 := Tryz.underlying4
  a4 := Tryz.isAgg4
  z4 := Tryz.sizeOf4
  v4 := Tryz.zeroValue4
  t5 := Tryz.underlying5
  a5 := Tryz.isAgg5
  z5 := Tryz.sizeOf5
  v5 := Tryz.zeroValue5
  t9 := Tryz.underlying9
  a9 := Tryz.isAgg9
  z9 := Tryz.sizeOf9
  v9 := Tryz.zeroValue9
  t21 := Tryz.underlying21
  a21 := Tryz.isAgg21
  z21 := Tryz.sizeOf21
  v21 := Tryz.zeroValue21
  t46 := Tryz.underlying94
  a46 := Tryz.isAgg94
  z46 := Tryz.sizeOf94
  v46 := Tryz.zeroValue94
  t105 := Tryz.underlying222
  a105 := Tryz.isAgg222
  z105 := Tryz.sizeOf222
  v105 := Tryz.zeroValue222
  t116 := Tryz.underlying207
  a116 := Tryz.isAgg207
  z116 := Tryz.sizeOf207
  t117 := Tryz.underlying208
  a117 := Tryz.isAgg208
  z117 := Tryz.sizeOf208
  v117 := Tryz.zeroValue208
  t119 := Tryz.underlying231
  a119 := Tryz.isAgg231
  z119 := Tryz.sizeOf231
  t124 := Tryz.underlying211
  a124 := Tryz.isAgg211
  z124 := Tryz.sizeOf211
  v124 := Tryz.zeroValue211
  t138 := Tryz.underlying233
  a138 := Tryz.isAgg233
  z138 := Tryz.sizeOf233
  v138 := Tryz.zeroValue233
  t139 := Tryz.underlying234
  a139 := Tryz.isAgg234
  z139 := Tryz.sizeOf234
  v139 := Tryz.zeroValue234
  g3 := by kernel_rfl
  g4 := by kernel_rfl }
def Tryz.lays137_ren : Go.Shelf.Ren := ⟨fun | 137 => 118 | 217 => 133 | 266 => 138 | n => n, fun | 9 => 9 | 5 => 5 | 3 => 3 | n => n, fun | n => n⟩
theorem Tryz.lays137 : Go.Proofs.Lays.n137 Tryz.prog Tryz.lays137_ren := {
  mixed := by kernel_rfl
  f137 := Tryz.func118.trans (congrArg some (by kernel_rfl))
  f217 := Tryz.func133.trans (congrArg some (by kernel_rfl))
  f266 := Tryz.func138.trans (congrArg some (by kernel_rfl))
  t3 := Tryz.underlying3
  a3 := Tryz.isAgg3
  z3 := Tryz.sizeOf3
  v3 := Tryz.zeroValue3
  t5 := Tryz.underlying5
  a5 := Tryz.isAgg5
  z5 := Tryz.sizeOf5
  v5 := Tryz.zeroValue5
  t9 := Tryz.underlying9
  a9 := Tryz.isAgg9
  z9 := Tryz.sizeOf9
  v9 := Tryz.zeroValue9 }
def Tryz.laysM171_ren : Go.Shelf.Ren := ⟨fun | 171 => 77 | 243 => 89 | 246 => 99 | 283 => 111 | 284 => 112 | 285 => 113 | 286 => 114 | 129 => 129 | 317 => 128 | 318 => 130 | 319 => 131 | 320 => 132 | 337 => 136 | 338 => 137 | n => n, fun | 3 => 3 | 9 => 9 | 2 => 2 | 4 => 4 | 171 => 212 | 0 => 0 | 53 => 117 | 37 => 42 | 5 => 5 | 173 => 215 | 212 => 226 | 51 => 88 | 20 => 20 | 213 => 227 | 46 => 94 | 232 => 70 | 233 => 84 | n => n, fun | 17 => 14 | 18 => 18 | 19 => 19 | n => n⟩
theorem Tryz.laysM171 : Go.Proofs.LaysM.n171 Tryz.prog Tryz.laysM171_ren := {
  mixed := by kernel_rfl
  f129 := Tryz.func129.trans (congrArg some (by kernel_rfl))
  f171 := Tryz.func77.trans (congrArg some (by kernel_rfl))
  f243 := Tryz.func89.trans (congrArg some (by kernel_rfl))
  f246 := Tryz.func99.trans (congrArg some (by kernel_rfl))
  f283 := Tryz.func111.trans (congrArg some (by kernel_rfl))
  f284 := Tryz.func112.trans (congrArg some (by kernel_rfl))
  f285 := Tryz.func113.trans (congrArg some (by kernel_rfl))
  f286 := Tryz.func114.trans (congrArg some (by kernel_rfl))
  f317 := Tryz.func128.trans (congrArg some (by kernel_rfl))
  f318 := Tryz.func130.trans (congrArg some (by kernel_rfl))
  f319 := Tryz.func131.trans (congrArg some (by kernel_rfl))
  f320 := Tryz.func132.trans (congrArg some (by kernel_rfl))
  f337 := Tryz.func136.trans (congrArg some (by kernel_rfl))
  f338 := Tryz.func137.trans (congrArg some (by kernel_rfl))
  t0 := Tryz.underlying0
  a0 := Tryz.isAgg0
  z0 := Tryz.sizeOf0
  v0 := Tryz.zeroValue0
  t2 := Tryz.underlying2
  a2 := Tryz.isAgg2
  z2 := Tryz.sizeOf2
  v2 := Tryz.zeroValue2
  t3 := Tryz.underlying3
  a3 := Tryz.isAgg3
  z3 := Tryz.sizeOf3
  v3 := Tryz.zeroValue3
  t4 := Tryz.underlying4
  a4 := Tryz.isAgg4
  z4 := Tryz.sizeOf4
  v4 := Tryz.zeroValue4
  t5 := Tryz.underlying5
  a5 := Tryz.isAgg5
  z5 := Tryz.sizeOf5
  v5 := Tryz.zeroValue5
  t9 := Tryz.underlying9
  a9 := Tryz.isAgg9
  z9 := Tryz.sizeOf9
  v9 := Tryz.zeroValue9
  t20 := Tryz.underlying20
  a20 := Tryz.isAgg20
  z20 := Tryz.sizeOf20
  v20 := Tryz.zeroValue20
  t37 := Tryz.underlying42
  a37 := Tryz.isAgg42
  z37 := Tryz.sizeOf42
  v37 := Tryz.zeroValue42
  t46 := Tryz.underlying94
  a46 := Tryz.isAgg94
  z46 := Tryz.sizeOf94
  v46 := Tryz.zeroValue94
  t51 := Tryz.underlying88
  a51 := Tryz.isAgg88
  z51 := Tryz.sizeOf88
  v51 := Tryz.zeroValue88
  t53 := Tryz.underlying117
  a53 := Tryz.isAgg117
  z53 := Tryz.sizeOf117
  v53 := Tryz.zeroValue117
  t171 := Tryz.underlying212
  a171 := Tryz.isAgg212
  z171 := Tryz.sizeOf212
  v171 := Tryz.zeroValue212
  t173 := Tryz.underlying215
  a173 := Tryz.isAgg215
  z173 := Tryz.sizeOf215
  v173 := Tryz.zeroValue215
  t212 := Tryz.underlying226
  a212 := Tryz.isAgg226
  z212 := Tryz.sizeOf226
  v212 := Tryz.zeroValue226
  t213 := Tryz.underlying227
  a213 := Tryz.isAgg227
  z213 := Tryz.sizeOf227
  t232 := Tryz.underlying70
  a232 := Tryz.isAgg70
  z232 := Tryz.sizeOf70
  v232 := Tryz.zeroValue70
  t233 := Tryz.underlying84
  a233 := Tryz.isAgg84
  z233 := Tryz.sizeOf84
  v233 := Tryz.zeroValue84
  g17 := by kernel_rfl
  g18 := by kernel_rfl
  g19 := by kernel_rfl
  i0 := by kernel_rfl
  i2 := by kernel_rfl
  i3 := by kernel_rfl
  i4 := by kernel_rfl
  i5 := by kernel_rfl
  i9 := by kernel_rfl
  i20 := by kernel_rfl
  i37 := by kernel_rfl
  i46 := by kernel_rfl
  i51 := by kernel_rfl
  i53 := by kernel_rfl
  i171 := by kernel_rfl
  i173 := by kernel_rfl
  i212 := by kernel_rfl
  i232 := by kernel_rfl
  i233 := by kernel_rfl
  m17 := by kernel_rfl
  m18 := by kernel_rfl
  m19 := by kernel_rfl }
def Tryz.lays171_ren : Go.Shelf.Ren := ⟨fun | 171 => 77 | 243 => 89 | 246 => 99 | 283 => 111 | 284 => 112 | 285 => 113 | 286 => 114 | 129 => 129 | 317 => 128 | 318 => 130 | 319 => 131 | 320 => 132 | 337 => 136 | 338 => 137 | n => n, fun | 3 => 3 | 9 => 9 | 2 => 2 | 4 => 4 | 171 => 212 | 0 => 0 | 53 => 117 | 37 => 42 | 5 => 5 | 173 => 215 | 212 => 226 | 51 => 88 | 20 => 20 | 213 => 227 | 46 => 94 | 232 => 70 | 233 => 84 | n => n, fun | 17 => 14 | 18 => 18 | 19 => 19 | n => n⟩
theorem Tryz.lays171 : Go.Proofs.Lays.n171 Tryz.prog Tryz.lays171_ren := {
  mixed := by kernel_rfl
  f129 := Tryz.func129.trans (congrArg some (by kernel_rfl))
  f171 := Tryz.func77.trans (congrArg some (by kernel_rfl))
  f243 := Tryz.func89.trans (congrArg some (by kernel_rfl))
  f246 := Tryz.func99.trans (congrArg some (by kernel_rfl))
  f283 := Tryz.func111.trans (congrArg some (by kernel_rfl))
  f284 := Tryz.func112.trans (congrArg some (by kernel_rfl))
  f285 := Tryz.func113.trans (congrArg some (by kernel_rfl))
  f286 := Tryz.func114.trans (congrArg some (by kernel_rfl))
  f317 := Tryz.func128.trans (congrArg some (by kernel_rfl))
  f318 := Tryz.func130.trans (congrArg some (by kernel_rfl))
  f319 := Tryz.func131.trans (congrArg some (by kernel_rfl))
  f320 := Tryz.func132.trans (congrArg some (by kernel_rfl))
  f337 := Tryz.func136.trans (congrArg some (by kernel_rfl))
  f338 := Tryz.func137.trans (congrArg some (by kernel_rfl))
  t0 := Tryz.underlying0
  a0 := Tryz.isAgg0
  z0 := Tryz.sizeOf0
  v0 := Tryz.zeroValue0
  t2 := Tryz.underlying2
  a2 := Tryz.isAgg2
  z2 := Tryz.sizeOf2
  v2 := Tryz.zeroValue2
  t3 := Tryz.underlying3
  a3 := Tryz.isAgg3
  z3 := Tryz.sizeOf3
  v3 := Tryz.zeroValue3
  t4 := Tryz.underlying4
  a4 := Tryz.isAgg4
  z4 := Tryz.sizeOf4
  v4 := Tryz.zeroValue4
  t5 := Tryz.underlying5
  a5 := Tryz.isAgg5
  z5 := Tryz.sizeOf5
  v5 := Tryz.zeroValue5
  t9 := Tryz.underlying9
  a9 := Tryz.isAgg9
  z9 := Tryz.sizeOf9
  v9 := Tryz.zeroValue9
  t20 := Tryz.underlying20
  a20 := Tryz.isAgg20
  z20 := Tryz.sizeOf20
  v20 := Tryz.zeroValue20
  t37 := Tryz.underlying42
  a37 := Tryz.isAgg42
  z37 := Tryz.sizeOf42
  v37 := Tryz.zeroValue42
  t46 := Tryz.underlying94
  a46 := Tryz.isAgg94
  z46 := Tryz.sizeOf94
  v46 := Tryz.zeroValue94
  t51 := Tryz.underlying88
  a51 := Tryz.isAgg88
  z51 := Tryz.sizeOf88
  v51 := Tryz.zeroValue88
  t53 := Tryz.underlying117
  a53 := Tryz.isAgg117
  z53 := Tryz.sizeOf117
  v53 := Tryz.zeroValue117
  t171 := Tryz.underlying212
  a171 := Tryz.isAgg212
  z171 := Tryz.sizeOf212
  v171 := Tryz.zeroValue212
  t173 := Tryz.underlying215
  a173 := Tryz.isAgg215
  z173 := Tryz.sizeOf215
  v173 := Tryz.zeroValue215
  t212 := Tryz.underlying226
  a212 := Tryz.isAgg226
  z212 := Tryz.sizeOf226
  v212 := Tryz.zeroValue226
  t213 := Tryz.underlying227
  a213 := Tryz.isAgg227
  z213 := Tryz.sizeOf227
  t232 := Tryz.underlying70
  a232 := Tryz.isAgg70
  z232 := Tryz.sizeOf70
  v232 := Tryz.zeroValue70
  t233 := Tryz.underlying84
  a233 := Tryz.isAgg84
  z233 := Tryz.sizeOf84
  v233 := Tryz.zeroValue84
  g17 := by kernel_rfl
  g18 := by kernel_rfl
  g19 := by kernel_rfl }
def Tryz.lays105_ren : Go.Shelf.Ren := ⟨fun | 105 => 78 | 212 => 90 | 99 => 91 | 165 => 92 | 166 => 93 | 170 => 94 | 169 => 95 | 263 => 100 | 264 => 101 | 206 => 85 | 240 => 102 | 241 => 103 | 276 => 115 | 277 => 116 | n => n, fun | 9 => 9 | 3 => 3 | 4 => 4 | 20 => 20 | 0 => 0 | 46 => 94 | 109 => 177 | 5 => 5 | 72 => 181 | 76 => 183 | 51 => 88 | 146 => 198 | 53 => 117 | 148 => 200 | 70 => 179 | 37 => 42 | 75 => 78 | 127 => 202 | 164 => 133 | 80 => 186 | n => n, fun | n => n⟩
theorem Tryz.lays105 : Go.Proofs.Lays.n105 Tryz.prog Tryz.lays105_ren := {
  mixed := by kernel_rfl
  f99 := Tryz.func91.trans (congrArg some (by kernel_rfl))
  f105 := Tryz.func78.trans (congrArg some (by kernel_rfl))
  f165 := Tryz.func92.trans (congrArg some (by kernel_rfl))
  f166 := Tryz.func93.trans (congrArg some (by kernel_rfl))
  f169 := Tryz.func95.trans (congrArg some (by kernel_rfl))
  f170 := Tryz.func94.trans (congrArg some (by kernel_rfl))
  f206 := Tryz.func85.trans (congrArg some (by kernel_rfl))
  f212 := Tryz.func90.trans (congrArg some (by kernel_rfl))
  f240 := Tryz.func102.trans (congrArg some (by kernel_rfl))
  f241 := Tryz.func103.trans (congrArg some (by kernel_rfl))
  f263 := Tryz.func100.trans (congrArg some (by kernel_rfl))
  f264 := Tryz.func101.trans (congrArg some (by kernel_rfl))
  f276 := Tryz.func115.trans (congrArg some (by kernel_rfl))
  f277 := Tryz.func116.trans (congrArg some (by kernel_rfl))
  t0 := Tryz.underlying0
  a0 := Tryz.isAgg0
  z0 := Tryz.sizeOf0
  v0 := Tryz.zeroValue0
  t3 := Tryz.underlying3
  a3 := Tryz.isAgg3
  z3 := Tryz.sizeOf3
  v3 := Tryz.zeroValue3
  t4 := Tryz.underlying4
  a4 := Tryz.isAgg4
  z4 := Tryz.sizeOf4
  v4 := Tryz.zeroValue4
  t5 := Tryz.underlying5
  a5 := Tryz.isAgg5
  z5 := Tryz.sizeOf5
  v5 := Tryz.zeroValue5
  t9 := Tryz.underlying9
  a9 := Tryz.isAgg9
  z9 := Tryz.sizeOf9
  v9 := Tryz.zeroValue9
  t20 := Tryz.underlying20
  a20 := Tryz.isAgg20
  z20 := Tryz.sizeOf20
  v20 := Tryz.zeroValue20
  t37 := Tryz.underlying42
  a37 := Tryz.isAgg42
  z37 := Tryz.sizeOf42
  v37 := Tryz.zeroValue42
  t46 := Tryz.underlying94
  a46 := Tryz.isAgg94
  z46 := Tryz.sizeOf94
  v46 := Tryz.zeroValue94
  t51 := Tryz.underlying88
  a51 := Tryz.isAgg88
  z51 := Tryz.sizeOf88
  v51 := Tryz.zeroValue88
  t53 := Tryz.underlying117
  a53 := Tryz.isAgg117
  z53 := Tryz.sizeOf117
  v53 := Tryz.zeroValue117
  t70 := Tryz.underlying179
  a70 := Tryz.isAgg179
  z70 := Tryz.sizeOf179
  v70 := Tryz.zeroValue179
  t72 := Tryz.underlying181
  a72 := Tryz.isAgg181
  z72 := Tryz.sizeOf181
  v72 := Tryz.zeroValue181
  t75 := Tryz.underlying78
  a75 := Tryz.isAgg78
  z75 := Tryz.sizeOf78
  v75 := Tryz.zeroValue78
  t76 := Tryz.underlying183
  a76 := Tryz.isAgg183
  z76 := Tryz.sizeOf183
  v76 := Tryz.zeroValue183
  t109 := Tryz.underlying177
  a109 := Tryz.isAgg177
  z109 := Tryz.sizeOf177
  v109 := Tryz.zeroValue177
  t127 := Tryz.underlying202
  a127 := Tryz.isAgg202
  z127 := Tryz.sizeOf202
  v127 := Tryz.zeroValue202
  t146 := Tryz.underlying198
  a146 := Tryz.isAgg198
  z146 := Tryz.sizeOf198
  v146 := Tryz.zeroValue198
  t148 := Tryz.underlying200
  a148 := Tryz.isAgg200
  z148 := Tryz.sizeOf200
  v148 := Tryz.zeroValue200
  t164 := Tryz.underlying133
  a164 := Tryz.isAgg133
  z164 := Tryz.sizeOf133
  v164 := Tryz.zeroValue133 }
theorem Tryz.Builder_Extra_105 : Builder.Extra Tryz.prog Tryz.lays105_ren := {
  sizeBuilder := by kernel_rfl
  liesBuilder := by kernel_rfl
  t5 := Tryz.underlying5
  a5 := Tryz.isAgg5
  z5 := Tryz.sizeOf5
  v5 := Tryz.zeroValue5
  infoByte := by kernel_rfl
  cellsByte := by kernel_rfl
  sizeByte := by kernel_rfl
  neB5 := by decide }
def Tryz.laysSlK4_ren : Go.Shelf.Ren := ⟨fun | 4 => 81 | n => n, fun | 22 => 42 | 4 => 4 | 5 => 5 | n => n, fun | n => n⟩
theorem Tryz.laysSlK4 : Go.Proofs.SlLaysK.n4 Tryz.prog Tryz.laysSlK4_ren := {
  mixed := by kernel_rfl
  f4 := Tryz.func81.trans (congrArg some (by kernel_rfl))
  t4 := Tryz.underlying4
  a4 := Tryz.isAgg4
  z4 := Tryz.sizeOf4
  v4 := Tryz.zeroValue4
  t22 := Tryz.underlying42
  a22 := Tryz.isAgg42
  z22 := Tryz.sizeOf42
  v22 := Tryz.zeroValue42
  t5 := Tryz.underlying5
  i5 := by kernel_rfl }
end Go.Proofs.YtfnillibngijaaaGreatDoor
namespace Go.Proofs.YtfnillibngijaaaGreatDoor
open Go.RowKit
open Fdd
set_option linter.unusedVariables false
def ascii (l : List UInt8) : Prop := ∀ (j : Nat) b, l[j]? = some b → b.toNat < 128
theorem trim_only : ∀ (l cs : List UInt8), (Lib.trimLeftS l cs == []) = onlyOf l cs
  | [], cs => rfl
  | a :: l, cs => by
    unfold Lib.trimLeftS onlyOf
    rw [List.dropWhile_cons, List.all_cons]
    by_cases h : cs.contains a
    · have ih := trim_only l cs
      unfold Lib.trimLeftS onlyOf at ih
      rw [if_pos h, h, ih, Bool.true_and]
    · rw [if_neg h]
      simp only [Bool.not_eq_true] at h
      rw [h]
      simp
theorem only_walk (l cs : List UInt8) (hc : cs.length < 100) (ha : ascii cs) (w : World) :
    Calls Tryz.prog 88 #[strV l, strV cs] w fun e w' => e = .returned (.bool (onlyOf l cs)) ∧ Turn nowhere w w' := by
  go_enter Tryz.func88, Tryz.ntmps88
  go_wp2_with (go_at_call 98; refine (Any.strings_TrimLeft_laid Tryz.lays161 (by kernel_rfl) ⟨l.toArray⟩ ⟨cs.toArray⟩ _ (by rw [str_size]; omega) ha).mono ?_; rintro e w1 ⟨rfl, hb⟩)
  go_ret
  refine ⟨ret_bool ?_, Turn.of_below hb (Nat.le_refl _)⟩
  rw [← trim_only]
  cases Lib.trimLeftS l cs <;> rfl
def fmV (f : Fm) : Value := .agg #[.int .i64 f.kind, .int .i64 f.size, .int .i64 f.code]
def fmC (f : Fm) : Array Value := #[.int .i64 f.kind, .int .i64 f.size, .int .i64 f.code]
theorem mayBe_walk (f : Fm) (w : World) :
    Calls Tryz.prog 75 #[fmV f] w fun e w' => e = .returned (.bool f.may) ∧ Turn nowhere w w' := by
  obtain ⟨k, s, c⟩ := f
  unfold fmV
  go_enter Tryz.func75, Tryz.ntmps75
  go_wp2
  all_goals (try go_ret)
  all_goals
    refine ⟨ret_bool ?_, (Turn.refl _ w).alloc _⟩
    simp only [beq_iff_eq, beq_eq_false_iff_ne, ne_eq] at *
    rw [Bool.eq_iff_iff]
    simp only [Fm.may, Bool.and_eq_true, decide_eq_true_eq, Bool.false_eq_true]
    refine ⟨fun h => ?_, fun h => ?_⟩ <;> (try dsimp only at h ⊢) <;> omega
end Go.Proofs.YtfnillibngijaaaGreatDoor
