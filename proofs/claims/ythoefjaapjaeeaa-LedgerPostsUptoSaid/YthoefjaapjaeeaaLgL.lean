/-
  Ledgers, the reference: New and Post: the walks. No conditions.
-/
import Derived.Test.YthoefjaapjaeeaaLgK
import Derived.Deep.LoopGhost
import Derived.WalkSmall
namespace Go.Proofs.Ythoefjaapjaeeaa
open Go.RowKit
open Lg (Ent)
set_option linter.unusedVariables false
set_option linter.unusedSimpArgs false
theorem elmN : Elm Try.prog 32 3 1 8 (.int .i64 0) := ⟨Try.underlying32, by kernel_rfl, rfl, by decide, by decide⟩
theorem size_n : (Try.prog.info? 3).map (·.size) = some 1 := by kernel_rfl
def one1 (z : Int) : List Value := [.int .i64 z]
def nums (n : Nat) (b : Nat → Int) : List (List Value) := (List.range n).map fun a => one1 (b a)
theorem nums_len (n : Nat) (b : Nat → Int) : (nums n b).length = n := by simp [nums]
theorem nums_at {n a : Nat} (b : Nat → Int) (h : a < n) : (nums n b)[a]? = some (one1 (b a)) := by
  unfold nums
  rw [List.getElem?_map, List.getElem?_range h]
  rfl
theorem nums_snoc (n : Nat) (b : Nat → Int) : nums (n + 1) b = nums n b ++ [one1 (b n)] := by simp [nums, List.range_succ]
theorem nums_zero (n : Nat) : List.replicate n ((.int .i64 0 : Value).cells.toList) = nums n fun _ => 0 := by
  apply List.ext_getElem?
  intro i
  by_cases h : i < n
  · rw [List.getElem?_replicate, if_pos h, nums_at _ h]; rfl
  · rw [List.getElem?_eq_none (by simp; omega), List.getElem?_eq_none (by rw [nums_len]; omega)]
theorem one1_one (z : Int) : ∀ u ∈ one1 z, u.oneCell' = true := fun u hu => by
  simp only [one1, List.mem_cons, List.not_mem_nil, or_false] at hu
  subst hu; rfl
theorem build_lr (A : Option Addr) (n c : Nat) (W : World) : (Instr.build 34 #[(0, .slice A n c)]).run Try.prog W = .ok (.agg #[.slice A n c]) W := by kernel_rfl
theorem box_lr (A : Option Addr) (n c : Nat) (w : World) : (Instr.box 34 (.agg #[.slice A n c])).run Try.prog w = .ok (.pointer (some ⟨w.heap.size, 0, none⟩)) (w.alloc (.cells #[.slice A n c] 34)) := by
  simp [Instr.box, newVar, newRow, Result.andThen, Value.cells]
/-- the reference's ledger in memory: its row is v -/
structure RLed (w : World) (y n : Nat) (b : Nat → Int) (v : Value) : Prop where
  blk : Blk w y 34 #[v]
  row : Orw w 0 3 1 v (nums n b)
  ac : 1 ≤ n ∧ n ≤ 7
  ok : Lg.Okb n b
theorem RLed.turn {w w' : World} {y n : Nat} {b : Nat → Int} {v : Value} {F : Nat → Prop} (h : RLed w y n b v) (ht : Turn F w w') (hn : ¬ F y) (hv : ∀ g, v.ownBlock = some g → ¬ F g) : RLed w' y n b v := ⟨h.blk.turn ht hn, h.row.turn ht hv, h.ac, h.ok⟩
theorem RLed.still {w w' : World} {y n : Nat} {b : Nat → Int} {v : Value} (h : RLed w y n b v) (ht : Turn nowhere w w') : RLed w' y n b v := h.turn ht (fun e => e) fun _ _ e => e
/-- another block is written: of another sort -/
theorem RLed.off {w w' : World} {y n p : Nat} {b : Nat → Int} {v : Value} {t : TypeId} {cs : Array Value} (h : RLed w y n b v) (ht : Turn (only p) w w') (hp : Blk w p t cs) (h1 : t ≠ 34) (h2 : t ≠ 3) : RLed w' y n b v :=
  h.turn ht (fun e => (h.blk.ne_ hp fun e => h1 e.symm) e) fun g hg e => (h.row.ne hp h2 g hg) e
/-- another ledger of the reference's is written -/
theorem RLed.off2 {w w' : World} {y n p : Nat} {b : Nat → Int} {v : Value} {cs : Array Value} (h : RLed w y n b v) (ht : Turn (only p) w w') (hp : Blk w p 34 cs) (hn : y ≠ p) : RLed w' y n b v :=
  h.turn ht (fun e => hn e) fun g hg e => (h.row.ne hp (by decide) g hg) e
/-- what New tells -/
def RNewP (w : World) (k : Int) (e : Ending) (w' : World) : Prop :=
  (¬ (1 ≤ k ∧ k ≤ 7) ∧ e = .returned (.tuple #[.pointer none, .int .i64 1]) ∧ w' = w) ∨
  ∃ (n y : Nat) (v : Value), k = (n : Int) ∧ e = .returned (.tuple #[.pointer (some ⟨y, 0, none⟩), .int .i64 0]) ∧ RLed w' y n (fun _ => 0) v ∧ w.heap.size ≤ y ∧ Turn nowhere w w'
theorem rNew_walk {w : World} {k : Int} : Calls Try.prog 10 #[.int .i64 k] w fun e w' => RNewP w k e w' := by
  rcases (by omega : k < 1 ∨ 7 < k ∨ (1 ≤ k ∧ k ≤ 7)) with h | h | h
  · have HN := Lib.hid (show ¬ (1 ≤ k ∧ k ≤ 7) from by omega)
    go_enter Try.func10, Try.ntmps10
    go_upto_region 0 with fail
    refine wp_region_lit ?_
    refine wpList_run (v := .pointer none) (wanted_none rfl) (gx_assign rfl rfl) ?_
    simp only [Act.put, List.setIfInBounds_toArray, List.set_cons_zero, List.set_cons_succ]
    refine wpList_run (v := .int .i64 0) (wanted_none rfl) (gx_assign rfl rfl) ?_
    simp only [Act.put, List.setIfInBounds_toArray, List.set_cons_zero, List.set_cons_succ]
    go_upto_region 1 with fail
    refine wp_region_lit ?_
    refine wpList_run (v := .int .i64 k) (wanted_none rfl) (exec_move rfl rfl) ?_
    simp only [Act.put, List.setIfInBounds_toArray, List.set_cons_zero, List.set_cons_succ]
    refine wpList_run (v := .bool true) (wanted_none rfl) (ix_lss rfl rfl rfl (decide_eq_true h)) ?_
    simp only [Act.put, List.setIfInBounds_toArray, List.set_cons_zero, List.set_cons_succ]
    refine wpList_run (v := .bool true) (wanted_none rfl) (exec_move rfl rfl) ?_
    simp only [Act.put, List.setIfInBounds_toArray, List.set_cons_zero, List.set_cons_succ]
    refine wpList_skip (by go_simp) ?_
    simp only [Act.put, List.setIfInBounds_toArray, List.set_cons_zero, List.set_cons_succ]
    refine wpList_skip (by go_simp) ?_
    simp only [Act.put, List.setIfInBounds_toArray, List.set_cons_zero, List.set_cons_succ]
    refine wpList_run (v := .bool true) (wanted_none rfl) (ix_pickT rfl rfl rfl) ?_
    simp only [Act.put, List.setIfInBounds_toArray, List.set_cons_zero, List.set_cons_succ]
    go_upto_region 2 with fail
    refine wp_region_lit ?_
    refine wpList_run (v := .pointer none) (wanted_none rfl) (gx_assign rfl rfl) ?_
    simp only [Act.put, List.setIfInBounds_toArray, List.set_cons_zero, List.set_cons_succ]
    refine wpList_run (v := .int .i64 1) (wanted_none rfl) (gx_assign rfl rfl) ?_
    simp only [Act.put, List.setIfInBounds_toArray, List.set_cons_zero, List.set_cons_succ]
    go_wp2_with fail
    go_ret2
    exact .inl ⟨HN.out, rfl, rfl⟩
  · have HN := Lib.hid (show ¬ (1 ≤ k ∧ k ≤ 7) from by omega)
    go_enter Try.func10, Try.ntmps10
    go_upto_region 0 with fail
    refine wp_region_lit ?_
    refine wpList_run (v := .pointer none) (wanted_none rfl) (gx_assign rfl rfl) ?_
    simp only [Act.put, List.setIfInBounds_toArray, List.set_cons_zero, List.set_cons_succ]
    refine wpList_run (v := .int .i64 0) (wanted_none rfl) (gx_assign rfl rfl) ?_
    simp only [Act.put, List.setIfInBounds_toArray, List.set_cons_zero, List.set_cons_succ]
    go_upto_region 1 with fail
    refine wp_region_lit ?_
    refine wpList_run (v := .int .i64 k) (wanted_none rfl) (exec_move rfl rfl) ?_
    simp only [Act.put, List.setIfInBounds_toArray, List.set_cons_zero, List.set_cons_succ]
    refine wpList_run (v := .bool false) (wanted_none rfl) (ix_lss rfl rfl rfl (decide_eq_false (by omega))) ?_
    simp only [Act.put, List.setIfInBounds_toArray, List.set_cons_zero, List.set_cons_succ]
    refine wpList_run (v := .bool false) (wanted_none rfl) (exec_move rfl rfl) ?_
    simp only [Act.put, List.setIfInBounds_toArray, List.set_cons_zero, List.set_cons_succ]
    refine wpList_run (v := .int .i64 k) rfl (exec_move rfl rfl) ?_
    simp only [Act.put, List.setIfInBounds_toArray, List.set_cons_zero, List.set_cons_succ]
    refine wpList_run (v := .bool true) rfl (ix_gtr rfl rfl rfl (decide_eq_true h)) ?_
    simp only [Act.put, List.setIfInBounds_toArray, List.set_cons_zero, List.set_cons_succ]
    refine wpList_run (v := .bool true) (wanted_none rfl) (ix_pickF rfl rfl rfl) ?_
    simp only [Act.put, List.setIfInBounds_toArray, List.set_cons_zero, List.set_cons_succ]
    go_upto_region 2 with fail
    refine wp_region_lit ?_
    refine wpList_run (v := .pointer none) (wanted_none rfl) (gx_assign rfl rfl) ?_
    simp only [Act.put, List.setIfInBounds_toArray, List.set_cons_zero, List.set_cons_succ]
    refine wpList_run (v := .int .i64 1) (wanted_none rfl) (gx_assign rfl rfl) ?_
    simp only [Act.put, List.setIfInBounds_toArray, List.set_cons_zero, List.set_cons_succ]
    go_wp2_with fail
    go_ret2
    exact .inl ⟨HN.out, rfl, rfl⟩
  · obtain ⟨n, rfl⟩ := Int.eq_ofNat_of_zero_le (show 0 ≤ k by omega)
    have HN := Lib.hid (show 1 ≤ n ∧ n ≤ 7 from by omega)
    have y1 : 1 ≤ (n : Int) := by omega
    have y7 : (n : Int) ≤ 7 := by omega
    obtain ⟨w1, hrun, ho, ht⟩ := orw_make elmN (one1_one 0) n (by omega) w
    rw [nums_zero] at ho
    have HRUN := Lib.hid hrun
    obtain ⟨g, hg⟩ : ∃ g, g = w.heap.size := ⟨_, rfl⟩
    rw [← hg] at ho
    have HO := Lib.hid ho
    have HT1 := Lib.hid ht
    have HGG := Lib.hid hg
    clear h hrun ho ht hg
    go_enter Try.func10, Try.ntmps10
    go_upto_region 0 with fail
    refine wp_region_lit ?_
    refine wpList_run (v := .pointer none) (wanted_none rfl) (gx_assign rfl rfl) ?_
    simp only [Act.put, List.setIfInBounds_toArray, List.set_cons_zero, List.set_cons_succ]
    refine wpList_run (v := .int .i64 0) (wanted_none rfl) (gx_assign rfl rfl) ?_
    simp only [Act.put, List.setIfInBounds_toArray, List.set_cons_zero, List.set_cons_succ]
    go_upto_region 1 with fail
    refine wp_region_lit ?_
    refine wpList_run (v := .int .i64 (n : Int)) (wanted_none rfl) (exec_move rfl rfl) ?_
    simp only [Act.put, List.setIfInBounds_toArray, List.set_cons_zero, List.set_cons_succ]
    refine wpList_run (v := .bool false) (wanted_none rfl) (ix_lss rfl rfl rfl (decide_eq_false (by omega))) ?_
    simp only [Act.put, List.setIfInBounds_toArray, List.set_cons_zero, List.set_cons_succ]
    refine wpList_run (v := .bool false) (wanted_none rfl) (exec_move rfl rfl) ?_
    simp only [Act.put, List.setIfInBounds_toArray, List.set_cons_zero, List.set_cons_succ]
    refine wpList_run (v := .int .i64 (n : Int)) rfl (exec_move rfl rfl) ?_
    simp only [Act.put, List.setIfInBounds_toArray, List.set_cons_zero, List.set_cons_succ]
    refine wpList_run (v := .bool false) rfl (ix_gtr rfl rfl rfl (decide_eq_false (by omega))) ?_
    simp only [Act.put, List.setIfInBounds_toArray, List.set_cons_zero, List.set_cons_succ]
    refine wpList_run (v := .bool false) (wanted_none rfl) (ix_pickF rfl rfl rfl) ?_
    simp only [Act.put, List.setIfInBounds_toArray, List.set_cons_zero, List.set_cons_succ]
    go_upto_region 3 with fail
    refine wp_region_lit ?_
    refine wpList_run (v := .int .i64 (n : Int)) (wanted_none rfl) (exec_move rfl rfl) ?_
    simp only [Act.put, List.setIfInBounds_toArray, List.set_cons_zero, List.set_cons_succ]
    refine wpList_run (v := .slice (some ⟨g, 0, none⟩) n n) (w' := w1) (wanted_none rfl) (gx_make rfl rfl rfl (by rw [HGG.out]; exact HRUN.out)) ?_
    simp only [Act.put, List.setIfInBounds_toArray, List.set_cons_zero, List.set_cons_succ]
    refine wpList_run (v := .agg #[.slice (some ⟨g, 0, none⟩) n n]) (wanted_none rfl) (gx_build1 rfl rfl (build_lr _ _ _ _)) ?_
    simp only [Act.put, List.setIfInBounds_toArray, List.set_cons_zero, List.set_cons_succ]
    have hb := Blk.new w1 34 #[.slice (some ⟨g, 0, none⟩) n n]
    have ht2 := (Turn.refl nowhere w1).alloc (.cells #[.slice (some ⟨g, 0, none⟩) n n] 34)
    refine wpList_run (v := .pointer (some ⟨w1.heap.size, 0, none⟩)) (w' := w1.alloc (.cells #[.slice (some ⟨g, 0, none⟩) n n] 34)) (wanted_none rfl) (gx_box rfl rfl (box_lr _ _ _ _)) ?_
    simp only [Act.put, List.setIfInBounds_toArray, List.set_cons_zero, List.set_cons_succ]
    obtain ⟨y, hy⟩ : ∃ y, y = w1.heap.size := ⟨_, rfl⟩
    rw [← hy] at hb ⊢
    have HY := Lib.hid (show w.heap.size ≤ y from by rw [hy]; exact HT1.out.size)
    clear hy
    generalize w1.alloc (.cells #[.slice (some ⟨g, 0, none⟩) n n] 34) = w2 at *
    have HB := Lib.hid hb
    have HT2 := Lib.hid ht2
    clear hb ht2
    refine wpList_run (v := .pointer (some ⟨y, 0, none⟩)) (wanted_none rfl) (gx_assign rfl rfl) ?_
    simp only [Act.put, List.setIfInBounds_toArray, List.set_cons_zero, List.set_cons_succ]
    refine wpList_run (v := .int .i64 0) (wanted_none rfl) (gx_assign rfl rfl) ?_
    simp only [Act.put, List.setIfInBounds_toArray, List.set_cons_zero, List.set_cons_succ]
    go_wp2_with fail
    go_ret2
    exact .inr ⟨n, y, _, rfl, rfl, ⟨HB.out, (HO.out.still HT2.out).less (Nat.zero_le _), HN.out, Lg.okb_zero n⟩, HY.out, HT1.out.trans HT2.out fun _ _ e => e⟩
theorem wi_neq {a : Act} {o : Oper} {W : World} {x y : Operand} {u : TypeId} {z : Int} {r : Bool} (ho : o.op = .binOp .neq 71 x y u) (hx : a.eval x = .agg (wiA z)) (hy : a.eval y = .agg (wiA 0)) (hr : decide (z ≠ 0) = r) : (execOp a.eval o).run Try.prog W = .ok (.value (.bool r)) W := by
  subst hr
  have h := Lg.wi_zero z
  have e0 : Lg.wiH 0 = 0 := by decide
  have e1 : Lg.wiL 0 = 0 := by decide
  unfold execOp
  simp only [ho, hx, hy, wiA, hlA, e0, e1]
  go_simp
  by_cases h1 : Lg.wiH z = 0 <;> by_cases h2 : Lg.wiL z = 0 <;> simp [h1, h2] <;> omega
/-- what the reference's Post tells and makes -/
def RPostP (w : World) (y n : Nat) (b : Nat → Int) (es : List Ent) (e : Ending) (w' : World) : Prop :=
  e = .returned (.int .i64 (Lg.postE n b es)) ∧ (∃ v, RLed w' y n (Lg.postB n b es) v) ∧ Turn (only y) w w'
theorem RPostP.bad {w w' : World} {y n : Nat} {b : Nat → Int} {v : Value} {es : List Ent} {c : Int} (h : RLed w y n b v) (hc : Lg.postE n b es = c) (h0 : c ≠ 0) (ht : Turn nowhere w w') : RPostP w y n b es (.returned (.int .i64 c)) w' := by
  subst hc
  exact ⟨rfl, ⟨v, by rw [Lg.postB_bad h0]; exact h.still ht⟩, ht.mono fun _ _ e => e.elim⟩
theorem post_no {n a : Nat} {b : Nat → Int} {es : List Ent} (h : Lg.accB n es = true) (g : Lg.tot es = 0) (ha : a < n) (hz : ¬ Mn.in64 (b a + Lg.of (a : Int) es)) : Lg.postE n b es = 100 := by
  unfold Lg.postE
  rw [if_neg (by rw [h]; decide), if_neg (fun c => c g), if_pos]
  cases hf : Lg.fitB n b es with
  | false => rfl
  | true => exact absurd (Lg.fitB_iff.1 hf a ha) hz
theorem post_yes {n : Nat} {b : Nat → Int} {es : List Ent} (h : Lg.accB n es = true) (g : Lg.tot es = 0) (ha : ∀ a, a < n → Mn.in64 (b a + Lg.of (a : Int) es)) : Lg.postE n b es = 0 := Lg.postE_ok.2 ⟨h, g, Lg.fitB_iff.2 ha⟩
theorem mid_take {es : List Ent} (hw : ∀ e ∈ es, Mn.in64 e.1 ∧ Mn.in64 e.2) (hl : es.length ≤ 1048576) (i : Nat) : Lg.Mid (Lg.tot (es.take i)) := Lg.mid_tot (small_take hw i) (by rw [List.length_take]; omega)
theorem mid_takeB {es : List Ent} {b : Int} (hb : Mn.in64 b) (hw : ∀ e ∈ es, Mn.in64 e.1 ∧ Mn.in64 e.2) (hl : es.length ≤ 1048576) (i : Nat) (a : Int) : Lg.Mid (b + Lg.of a (es.take i)) := Lg.mid_bal hb (small_take hw i) (by rw [List.length_take]; omega) a
/-- a sum by halves, one more, and even -/
theorem even_l {z n : Int} (hz : Lg.Mid z) (hn : Mn.in64 n) : (-4611686020574871553 ≤ Lg.wiH z + n / 4294967296 ∧ Lg.wiH z + n / 4294967296 ≤ 4611686020574871552) ∧ (0 ≤ Lg.wiL z + n % 4294967296 ∧ Lg.wiL z + n % 4294967296 < 8589934592) := by
  have h1 := mid_h hz
  have h2 := n_h hn
  omega
theorem build0N (w : World) : (Instr.buildSlice 32 0 #[]).run Try.prog w = .ok (.slice (some ⟨w.heap.size, 0, none⟩) 0 0) (w.alloc (.cells #[] 3)) := by kernel_rfl
set_option maxRecDepth 20000 in
set_option maxHeartbeats 4000000 in
theorem rPost_walk {w : World} {y n : Nat} {b : Nat → Int} {v : Value} {A : Option Addr} {m c : Nat} {es : List Ent} (h : RLed w y n b v) (he : EntAt w A m es) (hm : m ≤ 1048576) : Calls Try.prog 13 #[.pointer (some ⟨y, 0, none⟩), .slice A m c] w fun e w' => RPostP w y n b es e w' := by
  have H := Lib.hid h
  have HE := Lib.hid he
  have HLEN := Lib.hid he.len
  have HMM := Lib.hid (show es.length ≤ 1048576 from by rw [← he.len]; exact hm)
  have hn7 := h.ac
  have y7 : (n : Int) ≤ 7 := by omega
  have ym : (m : Int) ≤ 1048576 := by omega
  obtain ⟨gv, cv, hv, hnc, _⟩ := h.row.some_ (by rw [nums_len]; omega)
  rw [nums_len] at hv hnc
  subst hv
  have HN7 := Lib.hid hn7
  clear h he hm hn7 hnc
  go_enter Try.func13, Try.ntmps13
  go_upto_region 0 with fail
  refine wp_region_lit ?_
  refine wpList_run (v := .int .i64 0) (wanted_none rfl) (gx_assign rfl rfl) ?_
  simp only [Act.put, List.setIfInBounds_toArray, List.set_cons_zero, List.set_cons_succ]
  go_upto_region 1 with fail
  refine wp_region_lit ?_
  refine wpList_run (v := .agg (wiA 0)) (wanted_none rfl) (gx_build0 rfl (build_wi0 _)) ?_
  simp only [Act.put, List.setIfInBounds_toArray, List.set_cons_zero, List.set_cons_succ]
  refine wpList_run (v := .pointer (some ⟨w.heap.size, 0, none⟩)) (w' := w.alloc (.cells (hlA 0 0) 71)) (wanted_none rfl) (gx_alloc rfl (zero_wi _)) ?_
  simp only [Act.put, List.setIfInBounds_toArray, List.set_cons_zero, List.set_cons_succ]
  have hb_ := Blk.new w 71 (hlA 0 0)
  have ht_ := (Turn.refl nowhere w).alloc (.cells (hlA 0 0) 71)
  obtain ⟨q, hg_⟩ : ∃ g, g = w.heap.size := ⟨_, rfl⟩
  rw [← hg_] at hb_ ⊢
  have HLq := Lib.hid (show w.heap.size ≤ q from by omega)
  clear hg_
  generalize w.alloc (.cells (hlA 0 0) 71) = w1 at *
  have HBq := Lib.hid hb_
  have HT1 := Lib.hid ht_
  clear hb_ ht_
  refine wpList_store_row (wanted_none rfl) 71 (.tmp 5) (.tmp 13) rfl (wiA 0) HBq.out rfl rfl (rfl) (by rw [size_wi] <;> rfl) (hlA_one _ _) ?_
  intro w2 hb_ ht_
  have HBq2 := Lib.hid hb_
  have HT2 := Lib.hid ht_
  clear hb_ ht_
  simp only [Act.put, List.setIfInBounds_toArray, List.set_cons_zero, List.set_cons_succ]
  have HT2w := Lib.hid (HT1.out.trans HT2.out fun k hk e => by have := HLq.out; have e : k = q := e; omega)
  clear HT1 HT2 HBq
  go_upto_region 2 with fail
  refine wp_region_lit ?_
  refine wpList_run (v := .int .i64 0) (wanted_none rfl) (gx_assign rfl rfl) ?_
  simp only [Act.put, List.setIfInBounds_toArray, List.set_cons_zero, List.set_cons_succ]
  go_wp2_with fail
  go_loopg [6] m (fun gk iv wr => ∃ i : Nat, iv = .int .i64 (i : Int) ∧ i + gk = m ∧ Lg.accB n (es.take i) = true ∧ Blk wr q 71 (wiA (Lg.tot (es.take i))) ∧ Turn nowhere w wr)
  case atStart => exact ⟨0, rfl, by omega, rfl, HBq2.out, HT2w.out⟩
  obtain ⟨i, rfl, hgk, hacc, hbq, htr⟩ := hrel
  have HGK := Lib.hid hgk
  have HACC := Lib.hid hacc
  have HBQ := Lib.hid hbq
  have HTR := Lib.hid htr
  have yi : (i : Int) ≤ (m : Int) := by omega
  clear hgk hacc hbq htr
  by_cases hlt : i < m
  · have HLT := Lib.hid hlt
    have y3 : (i : Int) < (m : Int) := by omega
    obtain ⟨e, hei⟩ := ent_some HLEN.out hlt
    have HEI := Lib.hid hei
    have HEW := Lib.hid (HE.out.wf e (List.mem_of_getElem? hei))
    obtain ⟨b1, o1, e1, _⟩ := HE.out.rng hei
    subst e1
    have HC0w := Lib.hid (HE.out.rngw HEI.out 0 _ rfl)
    have HC1w := Lib.hid (HE.out.rngw HEI.out 1 _ rfl)
    clear hei hlt
    have HC0 := Lib.hid (show wr.cell? ⟨b1, o1 + i * 2 + 0, none⟩ = some (.int .i64 e.1) from (HTR.out.cell (World.block_lt_of_cell? _ _ HC0w.out) fun e => e).trans HC0w.out)
    have HC1 := Lib.hid (show wr.cell? ⟨b1, o1 + i * 2 + 1, none⟩ = some (.int .i64 e.2) from (HTR.out.cell (World.block_lt_of_cell? _ _ HC1w.out) fun e => e).trans HC1w.out)
    have HNB := Lib.hid (show b1 ≠ q from fun e => by have h1 : b1 < w.heap.size := World.block_lt_of_cell? _ _ HC0w.out; have h2 := HLq.out; omega)
    go_upto_region 3 with fail
    refine wp_region_lit ?_
    refine wpList_run (v := .int .i64 (i : Int)) (wanted_none rfl) (exec_move rfl rfl) ?_
    simp only [Act.put, List.setIfInBounds_toArray, List.set_cons_zero, List.set_cons_succ]
    refine wpList_run (v := .slice (some ⟨b1, o1, none⟩) m c) (wanted_none rfl) (exec_move rfl rfl) ?_
    simp only [Act.put, List.setIfInBounds_toArray, List.set_cons_zero, List.set_cons_succ]
    refine wpList_run (v := .int .i64 (m : Int)) (wanted_none rfl) (gx_len rfl rfl Try.underlying35) ?_
    simp only [Act.put, List.setIfInBounds_toArray, List.set_cons_zero, List.set_cons_succ]
    refine wpList_run (v := .bool true) (wanted_none rfl) (ix_lss rfl rfl rfl (decide_eq_true y3)) ?_
    simp only [Act.put, List.setIfInBounds_toArray, List.set_cons_zero, List.set_cons_succ]
    rcases (by omega : e.1 < 0 ∨ (0 ≤ e.1 ∧ (n : Int) ≤ e.1) ∨ (0 ≤ e.1 ∧ e.1 < (n : Int))) with hin | hin | hin
    · have HPE := Lib.hid (post_acc (n := n) (i := i) (b := b) HEI.out (by omega))
      have HIN := Lib.hid hin
      clear hin
      go_upto_region 5 with fail
      refine wp_region_alw (fun W => W.cell? ⟨b1, o1 + i * 2 + 0, none⟩ = some (.int .i64 e.1) ∧ W.cell? ⟨b1, o1 + i * 2 + 1, none⟩ = some (.int .i64 e.2) ∧ Blk W y 34 #[.slice (some ⟨gv, 0, none⟩) n cv]) (by kernel_rfl) ?_
      have hS0 : (fun W => W.cell? ⟨b1, o1 + i * 2 + 0, none⟩ = some (.int .i64 e.1) ∧ W.cell? ⟨b1, o1 + i * 2 + 1, none⟩ = some (.int .i64 e.2) ∧ Blk W y 34 #[.slice (some ⟨gv, 0, none⟩) n cv]) wr.drew := ⟨HC0.out, HC1.out, (H.out.blk.turn (F := nowhere) HTR.out fun e => e).drew⟩
      have HD := Lib.hid ((Turn.refl nowhere wr).drew)
      generalize wr.drew = wd at *
      refine alw_take (i := 0) (v := .slice (some ⟨b1, o1, none⟩) m c) rfl (by kernel_rfl) (by kernel_rfl) (fun _ _ _ h => h) (.inl ⟨by rfl, fun W hW => exec_move rfl rfl⟩) hS0 ?_
      simp only [Act.put, List.setIfInBounds_toArray, List.set_cons_zero, List.set_cons_succ]
      refine alw_take (i := 1) (v := .int .i64 (i : Int)) rfl (by kernel_rfl) (by kernel_rfl) (fun _ _ _ h => h) (.inl ⟨by rfl, fun W hW => exec_move rfl rfl⟩) hS0 ?_
      simp only [Act.put, List.setIfInBounds_toArray, List.set_cons_zero, List.set_cons_succ]
      refine alw_take (i := 2) (v := .pointer (some ⟨b1, o1 + i * 2, none⟩)) rfl (by kernel_rfl) (by kernel_rfl) (fun _ _ _ h => h) (.inl ⟨by rfl, fun W hW => gx_iaddr (i := i) (sz := 2) rfl rfl rfl Try.underlying35 size_ent HLT.out rfl⟩) hS0 ?_
      simp only [Act.put, List.setIfInBounds_toArray, List.set_cons_zero, List.set_cons_succ]
      refine alw_take (i := 3) (v := .pointer (some ⟨b1, o1 + i * 2 + 0, none⟩)) rfl (by kernel_rfl) (by kernel_rfl) (fun _ _ _ h => h) (.inl ⟨by rfl, fun W hW => exec_field (off := o1 + i * 2) (d := 0) rfl rfl (by kernel_rfl)⟩) hS0 ?_
      simp only [Act.put, List.setIfInBounds_toArray, List.set_cons_zero, List.set_cons_succ]
      refine alw_take (i := 4) (v := .int .i64 e.1) rfl (by kernel_rfl) (by kernel_rfl) (fun _ _ _ h => h) (.inl ⟨by rfl, fun W hW => exec_load1 rfl rfl (by kernel_rfl) hW.1⟩) hS0 ?_
      simp only [Act.put, List.setIfInBounds_toArray, List.set_cons_zero, List.set_cons_succ]
      refine alw_take (i := 5) (v := .bool true) rfl (by kernel_rfl) (by kernel_rfl) (fun _ _ _ h => h) (.inl ⟨by rfl, fun W hW => ix_lss rfl rfl rfl (decide_eq_true HIN.out)⟩) hS0 ?_
      simp only [Act.put, List.setIfInBounds_toArray, List.set_cons_zero, List.set_cons_succ]
      refine alw_take (i := 6) (v := .bool true) rfl (by kernel_rfl) (by kernel_rfl) (fun _ _ _ h => h) (.inl ⟨by rfl, fun W hW => exec_move rfl rfl⟩) hS0 ?_
      simp only [Act.put, List.setIfInBounds_toArray, List.set_cons_zero, List.set_cons_succ]
      refine alw_take (i := 7) (v := undef) rfl (by kernel_rfl) (by kernel_rfl) (fun _ _ _ h => h) (.inr ⟨by rfl, rfl⟩) hS0 ?_
      simp only [Act.put, List.setIfInBounds_toArray, List.set_cons_zero, List.set_cons_succ]
      refine alw_take (i := 8) (v := undef) rfl (by kernel_rfl) (by kernel_rfl) (fun _ _ _ h => h) (.inr ⟨by rfl, rfl⟩) hS0 ?_
      simp only [Act.put, List.setIfInBounds_toArray, List.set_cons_zero, List.set_cons_succ]
      refine alw_take (i := 9) (v := undef) rfl (by kernel_rfl) (by kernel_rfl) (fun _ _ _ h => h) (.inr ⟨by rfl, rfl⟩) hS0 ?_
      simp only [Act.put, List.setIfInBounds_toArray, List.set_cons_zero, List.set_cons_succ]
      refine alw_take (i := 10) (v := undef) rfl (by kernel_rfl) (by kernel_rfl) (fun _ _ _ h => h) (.inr ⟨by rfl, rfl⟩) hS0 ?_
      simp only [Act.put, List.setIfInBounds_toArray, List.set_cons_zero, List.set_cons_succ]
      refine alw_take (i := 11) (v := undef) rfl (by kernel_rfl) (by kernel_rfl) (fun _ _ _ h => h) (.inr ⟨by rfl, rfl⟩) hS0 ?_
      simp only [Act.put, List.setIfInBounds_toArray, List.set_cons_zero, List.set_cons_succ]
      refine alw_take (i := 12) (v := undef) rfl (by kernel_rfl) (by kernel_rfl) (fun _ _ _ h => h) (.inr ⟨by rfl, rfl⟩) hS0 ?_
      simp only [Act.put, List.setIfInBounds_toArray, List.set_cons_zero, List.set_cons_succ]
      refine alw_take (i := 13) (v := undef) rfl (by kernel_rfl) (by kernel_rfl) (fun _ _ _ h => h) (.inr ⟨by rfl, rfl⟩) hS0 ?_
      simp only [Act.put, List.setIfInBounds_toArray, List.set_cons_zero, List.set_cons_succ]
      refine alw_take (i := 14) (v := undef) rfl (by kernel_rfl) (by kernel_rfl) (fun _ _ _ h => h) (.inr ⟨by rfl, rfl⟩) hS0 ?_
      simp only [Act.put, List.setIfInBounds_toArray, List.set_cons_zero, List.set_cons_succ]
      refine alw_take (i := 15) (v := undef) rfl (by kernel_rfl) (by kernel_rfl) (fun _ _ _ h => h) (.inr ⟨by rfl, rfl⟩) hS0 ?_
      simp only [Act.put, List.setIfInBounds_toArray, List.set_cons_zero, List.set_cons_succ]
      refine alw_take (i := 16) (v := undef) rfl (by kernel_rfl) (by kernel_rfl) (fun _ _ _ h => h) (.inr ⟨by rfl, rfl⟩) hS0 ?_
      simp only [Act.put, List.setIfInBounds_toArray, List.set_cons_zero, List.set_cons_succ]
      refine alw_take (i := 17) (v := undef) rfl (by kernel_rfl) (by kernel_rfl) (fun _ _ _ h => h) (.inr ⟨by rfl, rfl⟩) hS0 ?_
      simp only [Act.put, List.setIfInBounds_toArray, List.set_cons_zero, List.set_cons_succ]
      refine alw_take (i := 18) (v := .bool true) rfl (by kernel_rfl) (by kernel_rfl) (fun _ _ _ h => h) (.inl ⟨by rfl, fun W hW => ix_pickT rfl rfl rfl⟩) hS0 ?_
      simp only [Act.put, List.setIfInBounds_toArray, List.set_cons_zero, List.set_cons_succ]
      refine alw_done rfl ?_
      refine NoPanic.normal ?_
      clear hS0
      have HTd := Lib.hid (HTR.out.trans HD.out fun _ _ e => e)
      go_upto_region 6 with fail
      refine wp_region_lit ?_
      refine wpList_run (v := .int .i64 121) (wanted_none rfl) (gx_assign rfl rfl) ?_
      simp only [Act.put, List.setIfInBounds_toArray, List.set_cons_zero, List.set_cons_succ]
      go_wp2_with fail
      go_ret
      exact RPostP.bad H.out HPE.out (by decide) HTd.out
    · have HPE := Lib.hid (post_acc (n := n) (i := i) (b := b) HEI.out (by omega))
      have HIN := Lib.hid hin
      clear hin
      go_upto_region 5 with fail
      refine wp_region_alw (fun W => W.cell? ⟨b1, o1 + i * 2 + 0, none⟩ = some (.int .i64 e.1) ∧ W.cell? ⟨b1, o1 + i * 2 + 1, none⟩ = some (.int .i64 e.2) ∧ Blk W y 34 #[.slice (some ⟨gv, 0, none⟩) n cv]) (by kernel_rfl) ?_
      have hS0 : (fun W => W.cell? ⟨b1, o1 + i * 2 + 0, none⟩ = some (.int .i64 e.1) ∧ W.cell? ⟨b1, o1 + i * 2 + 1, none⟩ = some (.int .i64 e.2) ∧ Blk W y 34 #[.slice (some ⟨gv, 0, none⟩) n cv]) wr.drew := ⟨HC0.out, HC1.out, (H.out.blk.turn (F := nowhere) HTR.out fun e => e).drew⟩
      have HD := Lib.hid ((Turn.refl nowhere wr).drew)
      generalize wr.drew = wd at *
      refine alw_take (i := 0) (v := .slice (some ⟨b1, o1, none⟩) m c) rfl (by kernel_rfl) (by kernel_rfl) (fun _ _ _ h => h) (.inl ⟨by rfl, fun W hW => exec_move rfl rfl⟩) hS0 ?_
      simp only [Act.put, List.setIfInBounds_toArray, List.set_cons_zero, List.set_cons_succ]
      refine alw_take (i := 1) (v := .int .i64 (i : Int)) rfl (by kernel_rfl) (by kernel_rfl) (fun _ _ _ h => h) (.inl ⟨by rfl, fun W hW => exec_move rfl rfl⟩) hS0 ?_
      simp only [Act.put, List.setIfInBounds_toArray, List.set_cons_zero, List.set_cons_succ]
      refine alw_take (i := 2) (v := .pointer (some ⟨b1, o1 + i * 2, none⟩)) rfl (by kernel_rfl) (by kernel_rfl) (fun _ _ _ h => h) (.inl ⟨by rfl, fun W hW => gx_iaddr (i := i) (sz := 2) rfl rfl rfl Try.underlying35 size_ent HLT.out rfl⟩) hS0 ?_
      simp only [Act.put, List.setIfInBounds_toArray, List.set_cons_zero, List.set_cons_succ]
      refine alw_take (i := 3) (v := .pointer (some ⟨b1, o1 + i * 2 + 0, none⟩)) rfl (by kernel_rfl) (by kernel_rfl) (fun _ _ _ h => h) (.inl ⟨by rfl, fun W hW => exec_field (off := o1 + i * 2) (d := 0) rfl rfl (by kernel_rfl)⟩) hS0 ?_
      simp only [Act.put, List.setIfInBounds_toArray, List.set_cons_zero, List.set_cons_succ]
      refine alw_take (i := 4) (v := .int .i64 e.1) rfl (by kernel_rfl) (by kernel_rfl) (fun _ _ _ h => h) (.inl ⟨by rfl, fun W hW => exec_load1 rfl rfl (by kernel_rfl) hW.1⟩) hS0 ?_
      simp only [Act.put, List.setIfInBounds_toArray, List.set_cons_zero, List.set_cons_succ]
      refine alw_take (i := 5) (v := .bool false) rfl (by kernel_rfl) (by kernel_rfl) (fun _ _ _ h => h) (.inl ⟨by rfl, fun W hW => ix_lss rfl rfl rfl (decide_eq_false (by have := HIN.out; omega))⟩) hS0 ?_
      simp only [Act.put, List.setIfInBounds_toArray, List.set_cons_zero, List.set_cons_succ]
      refine alw_take (i := 6) (v := .bool false) rfl (by kernel_rfl) (by kernel_rfl) (fun _ _ _ h => h) (.inl ⟨by rfl, fun W hW => exec_move rfl rfl⟩) hS0 ?_
      simp only [Act.put, List.setIfInBounds_toArray, List.set_cons_zero, List.set_cons_succ]
      refine alw_take (i := 7) (v := .slice (some ⟨b1, o1, none⟩) m c) rfl (by kernel_rfl) (by kernel_rfl) (fun _ _ _ h => h) (.inl ⟨by rfl, fun W hW => exec_move rfl rfl⟩) hS0 ?_
      simp only [Act.put, List.setIfInBounds_toArray, List.set_cons_zero, List.set_cons_succ]
      refine alw_take (i := 8) (v := .int .i64 (i : Int)) rfl (by kernel_rfl) (by kernel_rfl) (fun _ _ _ h => h) (.inl ⟨by rfl, fun W hW => exec_move rfl rfl⟩) hS0 ?_
      simp only [Act.put, List.setIfInBounds_toArray, List.set_cons_zero, List.set_cons_succ]
      refine alw_take (i := 9) (v := .pointer (some ⟨b1, o1 + i * 2, none⟩)) rfl (by kernel_rfl) (by kernel_rfl) (fun _ _ _ h => h) (.inl ⟨by rfl, fun W hW => gx_iaddr (i := i) (sz := 2) rfl rfl rfl Try.underlying35 size_ent HLT.out rfl⟩) hS0 ?_
      simp only [Act.put, List.setIfInBounds_toArray, List.set_cons_zero, List.set_cons_succ]
      refine alw_take (i := 10) (v := .pointer (some ⟨b1, o1 + i * 2 + 0, none⟩)) rfl (by kernel_rfl) (by kernel_rfl) (fun _ _ _ h => h) (.inl ⟨by rfl, fun W hW => exec_field (off := o1 + i * 2) (d := 0) rfl rfl (by kernel_rfl)⟩) hS0 ?_
      simp only [Act.put, List.setIfInBounds_toArray, List.set_cons_zero, List.set_cons_succ]
      refine alw_take (i := 11) (v := .int .i64 e.1) rfl (by kernel_rfl) (by kernel_rfl) (fun _ _ _ h => h) (.inl ⟨by rfl, fun W hW => exec_load1 rfl rfl (by kernel_rfl) hW.1⟩) hS0 ?_
      simp only [Act.put, List.setIfInBounds_toArray, List.set_cons_zero, List.set_cons_succ]
      refine alw_take (i := 12) (v := .pointer (some ⟨y, 0, none⟩)) rfl (by kernel_rfl) (by kernel_rfl) (fun _ _ _ h => h) (.inl ⟨by rfl, fun W hW => exec_move rfl rfl⟩) hS0 ?_
      simp only [Act.put, List.setIfInBounds_toArray, List.set_cons_zero, List.set_cons_succ]
      refine alw_take (i := 13) (v := .pointer (some ⟨y, 0, none⟩)) rfl (by kernel_rfl) (by kernel_rfl) (fun _ _ _ h => h) (.inl ⟨by rfl, fun W hW => exec_nil rfl rfl⟩) hS0 ?_
      simp only [Act.put, List.setIfInBounds_toArray, List.set_cons_zero, List.set_cons_succ]
      refine alw_take (i := 14) (v := .pointer (some ⟨y, 0, none⟩)) rfl (by kernel_rfl) (by kernel_rfl) (fun _ _ _ h => h) (.inl ⟨by rfl, fun W hW => exec_field (off := 0) (d := 0) rfl rfl (by kernel_rfl)⟩) hS0 ?_
      simp only [Act.put, List.setIfInBounds_toArray, List.set_cons_zero, List.set_cons_succ]
      refine alw_take (i := 15) (v := .slice (some ⟨gv, 0, none⟩) n cv) rfl (by kernel_rfl) (by kernel_rfl) (fun _ _ _ h => h) (.inl ⟨by rfl, fun W hW => exec_load1 rfl rfl (by kernel_rfl) (hW.2.2.cell 0)⟩) hS0 ?_
      simp only [Act.put, List.setIfInBounds_toArray, List.set_cons_zero, List.set_cons_succ]
      refine alw_take (i := 16) (v := .int .i64 (n : Int)) rfl (by kernel_rfl) (by kernel_rfl) (fun _ _ _ h => h) (.inl ⟨by rfl, fun W hW => gx_len rfl rfl Try.underlying32⟩) hS0 ?_
      simp only [Act.put, List.setIfInBounds_toArray, List.set_cons_zero, List.set_cons_succ]
      refine alw_take (i := 17) (v := .bool true) rfl (by kernel_rfl) (by kernel_rfl) (fun _ _ _ h => h) (.inl ⟨by rfl, fun W hW => ix_geq rfl rfl rfl (decide_eq_true HIN.out.2)⟩) hS0 ?_
      simp only [Act.put, List.setIfInBounds_toArray, List.set_cons_zero, List.set_cons_succ]
      refine alw_take (i := 18) (v := .bool true) rfl (by kernel_rfl) (by kernel_rfl) (fun _ _ _ h => h) (.inl ⟨by rfl, fun W hW => ix_pickF rfl rfl rfl⟩) hS0 ?_
      simp only [Act.put, List.setIfInBounds_toArray, List.set_cons_zero, List.set_cons_succ]
      refine alw_done rfl ?_
      refine NoPanic.normal ?_
      clear hS0
      have HTd := Lib.hid (HTR.out.trans HD.out fun _ _ e => e)
      go_upto_region 6 with fail
      refine wp_region_lit ?_
      refine wpList_run (v := .int .i64 121) (wanted_none rfl) (gx_assign rfl rfl) ?_
      simp only [Act.put, List.setIfInBounds_toArray, List.set_cons_zero, List.set_cons_succ]
      go_wp2_with fail
      go_ret
      exact RPostP.bad H.out HPE.out (by decide) HTd.out
    · have HIN := Lib.hid hin
      clear hin
      go_upto_region 5 with fail
      refine wp_region_alw (fun W => W.cell? ⟨b1, o1 + i * 2 + 0, none⟩ = some (.int .i64 e.1) ∧ W.cell? ⟨b1, o1 + i * 2 + 1, none⟩ = some (.int .i64 e.2) ∧ Blk W y 34 #[.slice (some ⟨gv, 0, none⟩) n cv]) (by kernel_rfl) ?_
      have hS0 : (fun W => W.cell? ⟨b1, o1 + i * 2 + 0, none⟩ = some (.int .i64 e.1) ∧ W.cell? ⟨b1, o1 + i * 2 + 1, none⟩ = some (.int .i64 e.2) ∧ Blk W y 34 #[.slice (some ⟨gv, 0, none⟩) n cv]) wr.drew := ⟨HC0.out, HC1.out, (H.out.blk.turn (F := nowhere) HTR.out fun e => e).drew⟩
      have HD := Lib.hid ((Turn.refl nowhere wr).drew)
      generalize wr.drew = wd at *
      refine alw_take (i := 0) (v := .slice (some ⟨b1, o1, none⟩) m c) rfl (by kernel_rfl) (by kernel_rfl) (fun _ _ _ h => h) (.inl ⟨by rfl, fun W hW => exec_move rfl rfl⟩) hS0 ?_
      simp only [Act.put, List.setIfInBounds_toArray, List.set_cons_zero, List.set_cons_succ]
      refine alw_take (i := 1) (v := .int .i64 (i : Int)) rfl (by kernel_rfl) (by kernel_rfl) (fun _ _ _ h => h) (.inl ⟨by rfl, fun W hW => exec_move rfl rfl⟩) hS0 ?_
      simp only [Act.put, List.setIfInBounds_toArray, List.set_cons_zero, List.set_cons_succ]
      refine alw_take (i := 2) (v := .pointer (some ⟨b1, o1 + i * 2, none⟩)) rfl (by kernel_rfl) (by kernel_rfl) (fun _ _ _ h => h) (.inl ⟨by rfl, fun W hW => gx_iaddr (i := i) (sz := 2) rfl rfl rfl Try.underlying35 size_ent HLT.out rfl⟩) hS0 ?_
      simp only [Act.put, List.setIfInBounds_toArray, List.set_cons_zero, List.set_cons_succ]
      refine alw_take (i := 3) (v := .pointer (some ⟨b1, o1 + i * 2 + 0, none⟩)) rfl (by kernel_rfl) (by kernel_rfl) (fun _ _ _ h => h) (.inl ⟨by rfl, fun W hW => exec_field (off := o1 + i * 2) (d := 0) rfl rfl (by kernel_rfl)⟩) hS0 ?_
      simp only [Act.put, List.setIfInBounds_toArray, List.set_cons_zero, List.set_cons_succ]
      refine alw_take (i := 4) (v := .int .i64 e.1) rfl (by kernel_rfl) (by kernel_rfl) (fun _ _ _ h => h) (.inl ⟨by rfl, fun W hW => exec_load1 rfl rfl (by kernel_rfl) hW.1⟩) hS0 ?_
      simp only [Act.put, List.setIfInBounds_toArray, List.set_cons_zero, List.set_cons_succ]
      refine alw_take (i := 5) (v := .bool false) rfl (by kernel_rfl) (by kernel_rfl) (fun _ _ _ h => h) (.inl ⟨by rfl, fun W hW => ix_lss rfl rfl rfl (decide_eq_false (by have := HIN.out; omega))⟩) hS0 ?_
      simp only [Act.put, List.setIfInBounds_toArray, List.set_cons_zero, List.set_cons_succ]
      refine alw_take (i := 6) (v := .bool false) rfl (by kernel_rfl) (by kernel_rfl) (fun _ _ _ h => h) (.inl ⟨by rfl, fun W hW => exec_move rfl rfl⟩) hS0 ?_
      simp only [Act.put, List.setIfInBounds_toArray, List.set_cons_zero, List.set_cons_succ]
      refine alw_take (i := 7) (v := .slice (some ⟨b1, o1, none⟩) m c) rfl (by kernel_rfl) (by kernel_rfl) (fun _ _ _ h => h) (.inl ⟨by rfl, fun W hW => exec_move rfl rfl⟩) hS0 ?_
      simp only [Act.put, List.setIfInBounds_toArray, List.set_cons_zero, List.set_cons_succ]
      refine alw_take (i := 8) (v := .int .i64 (i : Int)) rfl (by kernel_rfl) (by kernel_rfl) (fun _ _ _ h => h) (.inl ⟨by rfl, fun W hW => exec_move rfl rfl⟩) hS0 ?_
      simp only [Act.put, List.setIfInBounds_toArray, List.set_cons_zero, List.set_cons_succ]
      refine alw_take (i := 9) (v := .pointer (some ⟨b1, o1 + i * 2, none⟩)) rfl (by kernel_rfl) (by kernel_rfl) (fun _ _ _ h => h) (.inl ⟨by rfl, fun W hW => gx_iaddr (i := i) (sz := 2) rfl rfl rfl Try.underlying35 size_ent HLT.out rfl⟩) hS0 ?_
      simp only [Act.put, List.setIfInBounds_toArray, List.set_cons_zero, List.set_cons_succ]
      refine alw_take (i := 10) (v := .pointer (some ⟨b1, o1 + i * 2 + 0, none⟩)) rfl (by kernel_rfl) (by kernel_rfl) (fun _ _ _ h => h) (.inl ⟨by rfl, fun W hW => exec_field (off := o1 + i * 2) (d := 0) rfl rfl (by kernel_rfl)⟩) hS0 ?_
      simp only [Act.put, List.setIfInBounds_toArray, List.set_cons_zero, List.set_cons_succ]
      refine alw_take (i := 11) (v := .int .i64 e.1) rfl (by kernel_rfl) (by kernel_rfl) (fun _ _ _ h => h) (.inl ⟨by rfl, fun W hW => exec_load1 rfl rfl (by kernel_rfl) hW.1⟩) hS0 ?_
      simp only [Act.put, List.setIfInBounds_toArray, List.set_cons_zero, List.set_cons_succ]
      refine alw_take (i := 12) (v := .pointer (some ⟨y, 0, none⟩)) rfl (by kernel_rfl) (by kernel_rfl) (fun _ _ _ h => h) (.inl ⟨by rfl, fun W hW => exec_move rfl rfl⟩) hS0 ?_
      simp only [Act.put, List.setIfInBounds_toArray, List.set_cons_zero, List.set_cons_succ]
      refine alw_take (i := 13) (v := .pointer (some ⟨y, 0, none⟩)) rfl (by kernel_rfl) (by kernel_rfl) (fun _ _ _ h => h) (.inl ⟨by rfl, fun W hW => exec_nil rfl rfl⟩) hS0 ?_
      simp only [Act.put, List.setIfInBounds_toArray, List.set_cons_zero, List.set_cons_succ]
      refine alw_take (i := 14) (v := .pointer (some ⟨y, 0, none⟩)) rfl (by kernel_rfl) (by kernel_rfl) (fun _ _ _ h => h) (.inl ⟨by rfl, fun W hW => exec_field (off := 0) (d := 0) rfl rfl (by kernel_rfl)⟩) hS0 ?_
      simp only [Act.put, List.setIfInBounds_toArray, List.set_cons_zero, List.set_cons_succ]
      refine alw_take (i := 15) (v := .slice (some ⟨gv, 0, none⟩) n cv) rfl (by kernel_rfl) (by kernel_rfl) (fun _ _ _ h => h) (.inl ⟨by rfl, fun W hW => exec_load1 rfl rfl (by kernel_rfl) (hW.2.2.cell 0)⟩) hS0 ?_
      simp only [Act.put, List.setIfInBounds_toArray, List.set_cons_zero, List.set_cons_succ]
      refine alw_take (i := 16) (v := .int .i64 (n : Int)) rfl (by kernel_rfl) (by kernel_rfl) (fun _ _ _ h => h) (.inl ⟨by rfl, fun W hW => gx_len rfl rfl Try.underlying32⟩) hS0 ?_
      simp only [Act.put, List.setIfInBounds_toArray, List.set_cons_zero, List.set_cons_succ]
      refine alw_take (i := 17) (v := .bool false) rfl (by kernel_rfl) (by kernel_rfl) (fun _ _ _ h => h) (.inl ⟨by rfl, fun W hW => ix_geq rfl rfl rfl (decide_eq_false (by have := HIN.out; omega))⟩) hS0 ?_
      simp only [Act.put, List.setIfInBounds_toArray, List.set_cons_zero, List.set_cons_succ]
      refine alw_take (i := 18) (v := .bool false) rfl (by kernel_rfl) (by kernel_rfl) (fun _ _ _ h => h) (.inl ⟨by rfl, fun W hW => ix_pickF rfl rfl rfl⟩) hS0 ?_
      simp only [Act.put, List.setIfInBounds_toArray, List.set_cons_zero, List.set_cons_succ]
      refine alw_done rfl ?_
      refine NoPanic.normal ?_
      clear hS0
      have HTd := Lib.hid (HTR.out.trans HD.out fun _ _ e => e)
      have HBQd := Lib.hid (HBQ.out.turn HD.out fun e => e)
      clear HC0 HC1 HD
      have HC0 := Lib.hid (show wd.cell? ⟨b1, o1 + i * 2 + 0, none⟩ = some (.int .i64 e.1) from (HTd.out.cell (World.block_lt_of_cell? _ _ HC0w.out) fun e => e).trans HC0w.out)
      have HC1 := Lib.hid (show wd.cell? ⟨b1, o1 + i * 2 + 1, none⟩ = some (.int .i64 e.2) from (HTd.out.cell (World.block_lt_of_cell? _ _ HC1w.out) fun e => e).trans HC1w.out)
      obtain ⟨we, rfl⟩ : ∃ x, x = wd := ⟨_, rfl⟩
      have HMZ := Lib.hid (mid_take HE.out.wf HMM.out i)
      go_upto_region 7 with fail
      refine wp_region_alw (fun W => W.cell? ⟨b1, o1 + i * 2 + 0, none⟩ = some (.int .i64 e.1) ∧ W.cell? ⟨b1, o1 + i * 2 + 1, none⟩ = some (.int .i64 e.2)) (by kernel_rfl) ?_
      have hS0 : (fun W => W.cell? ⟨b1, o1 + i * 2 + 0, none⟩ = some (.int .i64 e.1) ∧ W.cell? ⟨b1, o1 + i * 2 + 1, none⟩ = some (.int .i64 e.2)) we.drew := ⟨HC0.out, HC1.out⟩
      have HD := Lib.hid ((Turn.refl nowhere we).drew)
      generalize we.drew = wd at *
      have HBd := Lib.hid (HBQd.out.turn HD.out fun e => e)
      have HTd := Lib.hid (HTd.out.trans HD.out fun _ _ e => e)
      clear HD
      refine alw_take (i := 1) (v := .slice (some ⟨b1, o1, none⟩) m c) rfl (by kernel_rfl) (by kernel_rfl) (fun _ _ _ h => h) (.inl ⟨by rfl, fun W hW => exec_move rfl rfl⟩) hS0 ?_
      simp only [Act.put, List.setIfInBounds_toArray, List.set_cons_zero, List.set_cons_succ]
      refine alw_take (i := 2) (v := .int .i64 (i : Int)) rfl (by kernel_rfl) (by kernel_rfl) (fun _ _ _ h => h) (.inl ⟨by rfl, fun W hW => exec_move rfl rfl⟩) hS0 ?_
      simp only [Act.put, List.setIfInBounds_toArray, List.set_cons_zero, List.set_cons_succ]
      refine alw_take (i := 3) (v := .pointer (some ⟨b1, o1 + i * 2, none⟩)) rfl (by kernel_rfl) (by kernel_rfl) (fun _ _ _ h => h) (.inl ⟨by rfl, fun W hW => gx_iaddr (i := i) (sz := 2) rfl rfl rfl Try.underlying35 size_ent HLT.out rfl⟩) hS0 ?_
      simp only [Act.put, List.setIfInBounds_toArray, List.set_cons_zero, List.set_cons_succ]
      refine alw_take (i := 4) (v := .pointer (some ⟨b1, o1 + i * 2 + 1, none⟩)) rfl (by kernel_rfl) (by kernel_rfl) (fun _ _ _ h => h) (.inl ⟨by rfl, fun W hW => exec_field (off := o1 + i * 2) (d := 1) rfl rfl (by kernel_rfl)⟩) hS0 ?_
      simp only [Act.put, List.setIfInBounds_toArray, List.set_cons_zero, List.set_cons_succ]
      refine alw_take (i := 5) (v := .int .i64 e.2) rfl (by kernel_rfl) (by kernel_rfl) (fun _ _ _ h => h) (.inl ⟨by rfl, fun W hW => exec_load1 rfl rfl (by kernel_rfl) hW.2⟩) hS0 ?_
      simp only [Act.put, List.setIfInBounds_toArray, List.set_cons_zero, List.set_cons_succ]
      refine alw_step (i := 0) (by kernel_rfl) rfl rfl ?_
      intro K1 HK1
      refine wp_run (v := .agg (wiA (Lg.tot (es.take i)))) (gx_loads rfl rfl (blk_range HBd.out) Try.underlying71 rfl (by rw [size_wi]; rfl)) ?_
      refine HK1.out _ _ ⟨hS0, ?_⟩
      clear HK1
      try simp only [Act.put, List.setIfInBounds_toArray, List.set_cons_zero, List.set_cons_succ]
      refine alw_step (i := 6) (by kernel_rfl) rfl rfl ?_
      intro K1 HK1
      go_wp2_with fail
      refine (wadd_walk (h := Lg.wiH (Lg.tot (es.take i))) (l := Lg.wiL (Lg.tot (es.take i))) wd (by have := mid_h HMZ.out; omega) (by have := mid_h HMZ.out; omega) HEW.out.2).mono ?_
      rintro e w8 ⟨rfl, ht⟩
      have hS1 : (fun W : World => W.cell? ⟨b1, o1 + i * 2 + 0, none⟩ = some (.int .i64 e.1) ∧ W.cell? ⟨b1, o1 + i * 2 + 1, none⟩ = some (.int .i64 e.2)) w8 := ⟨(ht.cell (World.block_lt_of_cell? _ _ hS0.1) fun e => e).trans hS0.1, (ht.cell (World.block_lt_of_cell? _ _ hS0.2) fun e => e).trans hS0.2⟩
      have HB8 := Lib.hid (HBd.out.turn ht fun e => e)
      have HT8 := Lib.hid (HTd.out.trans ht fun _ _ e => e)
      refine HK1.out _ _ ⟨⟨(ht.cell (World.block_lt_of_cell? _ _ hS0.1) (fun e => e)).trans hS0.1, (ht.cell (World.block_lt_of_cell? _ _ hS0.2) (fun e => e)).trans hS0.2⟩, ?_⟩
      clear HK1
      try simp only [Act.put, List.setIfInBounds_toArray, List.set_cons_zero, List.set_cons_succ]
      clear hS0 ht
      refine alw_step (i := 7) (by kernel_rfl) rfl rfl ?_
      intro K1 HK1
      go_wp2_with fail
      refine (weven_walk w8 (even_l HMZ.out HEW.out.2).1 (even_l HMZ.out HEW.out.2).2).mono ?_
      rintro e w9 ⟨rfl, ht⟩
      have hS2 : (fun W : World => W.cell? ⟨b1, o1 + i * 2 + 0, none⟩ = some (.int .i64 e.1) ∧ W.cell? ⟨b1, o1 + i * 2 + 1, none⟩ = some (.int .i64 e.2)) w9 := ⟨(ht.cell (World.block_lt_of_cell? _ _ hS1.1) fun e => e).trans hS1.1, (ht.cell (World.block_lt_of_cell? _ _ hS1.2) fun e => e).trans hS1.2⟩
      have HB9 := Lib.hid (HB8.out.turn ht fun e => e)
      have HT9 := Lib.hid (HT8.out.trans ht fun _ _ e => e)
      have hlt9 : b1 < w9.heap.size := World.block_lt_of_cell? _ _ hS2.1
      refine HK1.out _ _ ⟨⟨(ht.cell (World.block_lt_of_cell? _ _ hS1.1) (fun e => e)).trans hS1.1, (ht.cell (World.block_lt_of_cell? _ _ hS1.2) (fun e => e)).trans hS1.2⟩, ?_⟩
      clear HK1
      try simp only [Act.put, List.setIfInBounds_toArray, List.set_cons_zero, List.set_cons_succ]
      rw [even_wi]
      clear ht hS1
      refine alw_step (i := 8) (by kernel_rfl) rfl rfl ?_
      intro K1 HK1
      refine wp_store_rowU 71 (.tmp 5) (.tmp 46) rfl (wiA (Lg.tot (es.take i) + e.2)) HB9.out rfl rfl rfl (by rw [size_wi]; rfl) (hlA_one _ _) ?_
      intro wa hba hta
      refine HK1.out _ _ ⟨⟨(hta.cell (p := ⟨b1, o1 + i * 2 + 0, none⟩) hlt9 (fun e => HNB.out e)).trans hS2.1, (hta.cell (p := ⟨b1, o1 + i * 2 + 1, none⟩) hlt9 (fun e => HNB.out e)).trans hS2.2⟩, ?_⟩
      clear HK1
      try simp only [Act.put, List.setIfInBounds_toArray, List.set_cons_zero, List.set_cons_succ]
      have HBa := Lib.hid hba
      have HTa0 := Lib.hid hta
      clear hba hta hS2 hlt9
      refine alw_done rfl ?_
      refine NoPanic.normal ?_
      have htk := Lg.take_snoc HEI.out
      have HQa := Lib.hid (show Blk wa q 71 (wiA (Lg.tot (es.take (i + 1)))) from by rw [htk, Lg.tot_snoc]; exact HBa.out)
      have HAa := Lib.hid (show Lg.accB n (es.take (i + 1)) = true from by rw [htk]; exact acc_snoc HACC.out HIN.out)
      have HTa := Lib.hid (HT9.out.trans HTa0.out fun k hk e => by have := HLq.out; have e : k = q := e; omega)
      clear htk
      go_upto_region 4 with fail
      refine wp_region_lit ?_
      refine wpList_run (v := .int .i64 (i : Int)) (wanted_none rfl) (exec_move rfl rfl) ?_
      simp only [Act.put, List.setIfInBounds_toArray, List.set_cons_zero, List.set_cons_succ]
      refine wpList_run (v := .int .i64 ((i + 1 : Nat) : Int)) (wanted_none rfl) (ix_add rfl rfl rfl (by omega) (by omega)) ?_
      simp only [Act.put, List.setIfInBounds_toArray, List.set_cons_zero, List.set_cons_succ]
      refine wpList_run (v := .int .i64 ((i + 1 : Nat) : Int)) (wanted_none rfl) (gx_assign rfl rfl) ?_
      simp only [Act.put, List.setIfInBounds_toArray, List.set_cons_zero, List.set_cons_succ]
      go_wp2_with fail
      go_roundg (m - (i + 1))
      case measure => have := HGK.out; have := HLT.out; omega
      case rel => exact ⟨i + 1, rfl, by have := HLT.out; omega, HAa.out, HQa.out, HTa.out⟩
  · obtain rfl : i = m := by omega
    have htk : es.take i = es := List.take_of_length_le (by rw [← HLEN.out]; omega)
    have HACCz := Lib.hid (show Lg.accB n es = true from by have := HACC.out; rwa [htk] at this)
    have HBQz := Lib.hid (show Blk wr q 71 (wiA (Lg.tot es)) from by have := HBQ.out; rwa [htk] at this)
    clear hlt htk HACC HBQ
    go_upto_region 3 with fail
    refine wp_region_lit ?_
    refine wpList_run (v := .int .i64 (i : Int)) (wanted_none rfl) (exec_move rfl rfl) ?_
    simp only [Act.put, List.setIfInBounds_toArray, List.set_cons_zero, List.set_cons_succ]
    refine wpList_run (v := .slice A i c) (wanted_none rfl) (exec_move rfl rfl) ?_
    simp only [Act.put, List.setIfInBounds_toArray, List.set_cons_zero, List.set_cons_succ]
    refine wpList_run (v := .int .i64 (i : Int)) (wanted_none rfl) (gx_len rfl rfl Try.underlying35) ?_
    simp only [Act.put, List.setIfInBounds_toArray, List.set_cons_zero, List.set_cons_succ]
    refine wpList_run (v := .bool false) (wanted_none rfl) (ix_lss rfl rfl rfl (by simp)) ?_
    simp only [Act.put, List.setIfInBounds_toArray, List.set_cons_zero, List.set_cons_succ]
    by_cases hz : Lg.tot es = 0
    · have HZ := Lib.hid hz
      clear hz
      go_upto_region 8 with fail
      refine wp_region_lit ?_
      refine wpList_run (v := .agg (wiA (Lg.tot es))) (wanted_none rfl) (gx_loads rfl rfl (blk_range HBQz.out) Try.underlying71 rfl (by rw [size_wi]; rfl)) ?_
      simp only [Act.put, List.setIfInBounds_toArray, List.set_cons_zero, List.set_cons_succ]
      refine wpList_run (v := .agg (wiA 0)) (wanted_none rfl) (gx_build0 rfl (build_wi0 _)) ?_
      simp only [Act.put, List.setIfInBounds_toArray, List.set_cons_zero, List.set_cons_succ]
      refine wpList_run (v := .bool false) (wanted_none rfl) (wi_neq rfl rfl rfl (by rw [HZ.out]; rfl)) ?_
      simp only [Act.put, List.setIfInBounds_toArray, List.set_cons_zero, List.set_cons_succ]
      obtain ⟨m0, hm0⟩ : ∃ x, x = i := ⟨_, rfl⟩
      rw [← hm0] at HE HLEN ym ⊢
      obtain ⟨wz, hwz⟩ : ∃ x, x = wr := ⟨_, rfl⟩
      rw [← hwz] at HTR HBQz ⊢
      clear hwz hm0 HGK yi HBQz HBq2 HT2w
      obtain ⟨gz, hgz⟩ : ∃ x, x = gk := ⟨_, rfl⟩
      clear hgz
      have HT10 := Lib.hid ((Turn.refl nowhere wz).alloc (.cells #[] 3))
      go_upto_region 10 with fail
      refine wp_region_lit ?_
      refine wpList_run (v := .slice (some ⟨wz.heap.size, 0, none⟩) 0 0) (w' := wz.alloc (.cells #[] 3)) (wanted_none rfl) (bx_slice0 rfl (build0N wz)) ?_
      simp only [Act.put, List.setIfInBounds_toArray, List.set_cons_zero, List.set_cons_succ]
      have ho0 : Orw (wz.alloc (.cells #[] 3)) w.heap.size 3 1 (.slice (some ⟨wz.heap.size, 0, none⟩) 0 0) (nums 0 fun k => b k + Lg.of (k : Int) es) := (show Orw (wz.alloc (.cells #[] 3)) wz.heap.size 3 1 (.slice (some ⟨wz.heap.size, 0, none⟩) 0 0) [] from ⟨Fit.nil 1, World.ownsRow_made wz #[] 0 (Nat.le_refl _) (by decide) (by simp)⟩).less HTR.out.size
      have HO0 := Lib.hid ho0
      clear ho0
      obtain ⟨g10, hg10⟩ : ∃ g, g = wz.heap.size := ⟨_, rfl⟩
      rw [← hg10] at HO0 ⊢
      clear hg10
      generalize wz.alloc (.cells #[] 3) = w10 at *
      refine wpList_run (v := .slice (some ⟨g10, 0, none⟩) 0 0) (wanted_none rfl) (gx_assign rfl rfl) ?_
      simp only [Act.put, List.setIfInBounds_toArray, List.set_cons_zero, List.set_cons_succ]
      go_upto_region 11 with fail
      refine wp_region_lit ?_
      refine wpList_run (v := .int .i64 0) (wanted_none rfl) (gx_assign rfl rfl) ?_
      simp only [Act.put, List.setIfInBounds_toArray, List.set_cons_zero, List.set_cons_succ]
      go_wp2_with fail
      go_loopg [7, 8] n (fun gk nv av wr => ∃ a : Nat, av = .int .i64 (a : Int) ∧ a + gk = n ∧ (∀ k, k < a → Mn.in64 (b k + Lg.of (k : Int) es)) ∧ Orw wr w.heap.size 3 1 nv (nums a fun k => b k + Lg.of (k : Int) es) ∧ Turn nowhere w wr)
      case atStart => exact ⟨0, rfl, by omega, (fun k hk => absurd hk (by omega)), HO0.out, HTR.out.trans HT10.out fun _ _ e => e⟩
      obtain ⟨a, rfl, hga, hall, hor, hta⟩ := hrel
      have HGA := Lib.hid hga
      have HALL := Lib.hid hall
      have HOR := Lib.hid hor
      have HTA := Lib.hid hta
      have ya : (a : Int) ≤ (n : Int) := by omega
      obtain ⟨A5, c5, rfl, _⟩ := hor.form
      clear hga hall hor hta
      rw [nums_len] at HOR ⊢
      by_cases hlt : a < n
      · have HLA := Lib.hid hlt
        have y3 : (a : Int) < (n : Int) := by omega
        have HY := Lib.hid (H.out.still HTA.out)
        have HEL := Lib.hid (show wr.cell? ⟨gv, a, none⟩ = some (.int .i64 (b a)) from by have := HY.out.row.el0 (i := a) (nums_at b hlt) 0 _ rfl; simpa using this)
        clear hlt
        go_upto_region 12 with fail
        refine wp_region_lit ?_
        refine wpList_run (v := .int .i64 (a : Int)) (wanted_none rfl) (exec_move rfl rfl) ?_
        simp only [Act.put, List.setIfInBounds_toArray, List.set_cons_zero, List.set_cons_succ]
        refine wpList_run (v := .pointer (some ⟨y, 0, none⟩)) (wanted_none rfl) (exec_move rfl rfl) ?_
        simp only [Act.put, List.setIfInBounds_toArray, List.set_cons_zero, List.set_cons_succ]
        refine wpList_run (v := .pointer (some ⟨y, 0, none⟩)) (wanted_none rfl) (exec_nil rfl rfl) ?_
        simp only [Act.put, List.setIfInBounds_toArray, List.set_cons_zero, List.set_cons_succ]
        refine wpList_run (v := .pointer (some ⟨y, 0, none⟩)) (wanted_none rfl) (exec_field (off := 0) (d := 0) rfl rfl (by kernel_rfl)) ?_
        simp only [Act.put, List.setIfInBounds_toArray, List.set_cons_zero, List.set_cons_succ]
        refine wpList_run (v := .slice (some ⟨gv, 0, none⟩) n cv) (wanted_none rfl) (exec_load1 rfl rfl (by kernel_rfl) (HY.out.blk.cell 0)) ?_
        simp only [Act.put, List.setIfInBounds_toArray, List.set_cons_zero, List.set_cons_succ]
        refine wpList_run (v := .int .i64 (n : Int)) (wanted_none rfl) (gx_len rfl rfl Try.underlying32) ?_
        simp only [Act.put, List.setIfInBounds_toArray, List.set_cons_zero, List.set_cons_succ]
        refine wpList_run (v := .bool true) (wanted_none rfl) (ix_lss rfl rfl rfl (decide_eq_true y3)) ?_
        simp only [Act.put, List.setIfInBounds_toArray, List.set_cons_zero, List.set_cons_succ]
        go_upto_region 14 with fail
        refine wp_region_lit ?_
        refine wpList_run (v := .agg (hlA (Lg.wiH 0) (Lg.wiL 0))) (wanted_none rfl) (gx_build0 rfl (build_wi0 _)) ?_
        simp only [Act.put, List.setIfInBounds_toArray, List.set_cons_zero, List.set_cons_succ]
        refine wpList_run (v := .pointer (some ⟨y, 0, none⟩)) (wanted_none rfl) (exec_move rfl rfl) ?_
        simp only [Act.put, List.setIfInBounds_toArray, List.set_cons_zero, List.set_cons_succ]
        refine wpList_run (v := .pointer (some ⟨y, 0, none⟩)) (wanted_none rfl) (exec_nil rfl rfl) ?_
        simp only [Act.put, List.setIfInBounds_toArray, List.set_cons_zero, List.set_cons_succ]
        refine wpList_run (v := .pointer (some ⟨y, 0, none⟩)) (wanted_none rfl) (exec_field (off := 0) (d := 0) rfl rfl (by kernel_rfl)) ?_
        simp only [Act.put, List.setIfInBounds_toArray, List.set_cons_zero, List.set_cons_succ]
        refine wpList_run (v := .slice (some ⟨gv, 0, none⟩) n cv) (wanted_none rfl) (exec_load1 rfl rfl (by kernel_rfl) (HY.out.blk.cell 0)) ?_
        simp only [Act.put, List.setIfInBounds_toArray, List.set_cons_zero, List.set_cons_succ]
        refine wpList_run (v := .int .i64 (a : Int)) (wanted_none rfl) (exec_move rfl rfl) ?_
        simp only [Act.put, List.setIfInBounds_toArray, List.set_cons_zero, List.set_cons_succ]
        refine wpList_run (v := .pointer (some ⟨gv, a, none⟩)) (wanted_none rfl) (gx_iaddr (i := a) (sz := 1) rfl rfl rfl Try.underlying32 size_n HLA.out (by omega)) ?_
        simp only [Act.put, List.setIfInBounds_toArray, List.set_cons_zero, List.set_cons_succ]
        refine wpList_run (v := .int .i64 (b a)) (wanted_none rfl) (exec_load1 rfl rfl (by kernel_rfl) (HEL.out)) ?_
        simp only [Act.put, List.setIfInBounds_toArray, List.set_cons_zero, List.set_cons_succ]
        refine wpList_op rfl fun K9 HK9 => ?_
        go_wp2_with fail
        refine (wadd_walk (h := Lg.wiH 0) (l := Lg.wiL 0) wr (by decide) (by decide) (H.out.ok.1 a)).mono ?_
        rintro e w3 ⟨rfl, ht⟩
        refine HK9.out _ _ ?_
        clear HK9
        try simp only [Act.put, List.setIfInBounds_toArray, List.set_cons_zero, List.set_cons_succ]
        rw [zero_add_wi]
        have HT3 := Lib.hid ht
        clear ht HEL HY
        refine wpList_run (v := .pointer (some ⟨w3.heap.size, 0, none⟩)) (w' := w3.alloc (.cells (hlA 0 0) 71)) (wanted_none rfl) (gx_alloc rfl (zero_wi _)) ?_
        simp only [Act.put, List.setIfInBounds_toArray, List.set_cons_zero, List.set_cons_succ]
        have hb_ := Blk.new w3 71 (hlA 0 0)
        have ht_ := (Turn.refl nowhere w3).alloc (.cells (hlA 0 0) 71)
        obtain ⟨x, hg_⟩ : ∃ g, g = w3.heap.size := ⟨_, rfl⟩
        rw [← hg_] at hb_ ⊢
        have HLx := Lib.hid (show w3.heap.size ≤ x from by omega)
        clear hg_
        generalize w3.alloc (.cells (hlA 0 0) 71) = w4 at *
        have HBx := Lib.hid hb_
        have HT4 := Lib.hid ht_
        clear hb_ ht_
        refine wpList_store_row (wanted_none rfl) 71 (.tmp 9) (.tmp 68) rfl (wiA (b a)) HBx.out rfl rfl (rfl) (by rw [size_wi] <;> rfl) (hlA_one _ _) ?_
        intro w5 hb_ ht_
        have HBx5 := Lib.hid hb_
        have HT5 := Lib.hid ht_
        clear hb_ ht_
        simp only [Act.put, List.setIfInBounds_toArray, List.set_cons_zero, List.set_cons_succ]
        have HLx3 := Lib.hid (show wr.heap.size ≤ x from Nat.le_trans HT3.out.size HLx.out)
        have HTx := Lib.hid ((HT3.out.trans HT4.out fun _ _ e => e).trans HT5.out fun k hk e => by have := HLx3.out; have e : k = x := e; omega)
        clear HT3 HT4 HT5 HBx HLx
        obtain ⟨wo, hwo⟩ : ∃ z, z = wr := ⟨_, rfl⟩
        rw [← hwo] at HOR HTA HLx3 HTx
        clear hwo
        obtain ⟨go, hgo⟩ : ∃ z, z = gk := ⟨_, rfl⟩
        rw [← hgo] at HGA
        have HGO := Lib.hid hgo
        clear hgo
        go_upto_region 15 with fail
        refine wp_region_lit ?_
        refine wpList_run (v := .int .i64 0) (wanted_none rfl) (gx_assign rfl rfl) ?_
        simp only [Act.put, List.setIfInBounds_toArray, List.set_cons_zero, List.set_cons_succ]
        go_wp2_with fail
        go_loopg [10] m0 (fun gk iv wr => ∃ i : Nat, iv = .int .i64 (i : Int) ∧ i + gk = m0 ∧ Blk wr x 71 (wiA (b a + Lg.of (a : Int) (es.take i))) ∧ Turn nowhere wo wr)
        case atStart => exact ⟨0, rfl, by omega, by rw [List.take_zero, Lg.of_nil, Int.add_zero]; exact HBx5.out, HTx.out⟩
        obtain ⟨i, rfl, hgk, hbx, htr⟩ := hrel
        have HGK := Lib.hid hgk
        have HBX := Lib.hid hbx
        have HTI := Lib.hid htr
        have HTR := Lib.hid (HTA.out.trans htr fun _ _ e => e)
        have yi : (i : Int) ≤ (m0 : Int) := by omega
        clear hgk hbx htr
        by_cases hlt : i < m0
        · have HLT := Lib.hid hlt
          have y3 : (i : Int) < (m0 : Int) := by omega
          obtain ⟨e, hei⟩ := ent_some HLEN.out hlt
          have HEI := Lib.hid hei
          have HEW := Lib.hid (HE.out.wf e (List.mem_of_getElem? hei))
          obtain ⟨b1, o1, e1, _⟩ := HE.out.rng hei
          subst e1
          have HC0w := Lib.hid (HE.out.rngw HEI.out 0 _ rfl)
          have HC1w := Lib.hid (HE.out.rngw HEI.out 1 _ rfl)
          clear hei hlt
          have HC0 := Lib.hid (show wr.cell? ⟨b1, o1 + i * 2 + 0, none⟩ = some (.int .i64 e.1) from (HTR.out.cell (World.block_lt_of_cell? _ _ HC0w.out) fun e => e).trans HC0w.out)
          have HC1 := Lib.hid (show wr.cell? ⟨b1, o1 + i * 2 + 1, none⟩ = some (.int .i64 e.2) from (HTR.out.cell (World.block_lt_of_cell? _ _ HC1w.out) fun e => e).trans HC1w.out)
          have HNB := Lib.hid (show b1 ≠ x from fun e => by have h1 : b1 < w.heap.size := World.block_lt_of_cell? _ _ HC0w.out; have h2 := HLx3.out; have h3 := HTA.out.size; omega)
          go_upto_region 16 with fail
          refine wp_region_lit ?_
          refine wpList_run (v := .int .i64 (i : Int)) (wanted_none rfl) (exec_move rfl rfl) ?_
          simp only [Act.put, List.setIfInBounds_toArray, List.set_cons_zero, List.set_cons_succ]
          refine wpList_run (v := .slice (some ⟨b1, o1, none⟩) m0 c) (wanted_none rfl) (exec_move rfl rfl) ?_
          simp only [Act.put, List.setIfInBounds_toArray, List.set_cons_zero, List.set_cons_succ]
          refine wpList_run (v := .int .i64 (m0 : Int)) (wanted_none rfl) (gx_len rfl rfl Try.underlying35) ?_
          simp only [Act.put, List.setIfInBounds_toArray, List.set_cons_zero, List.set_cons_succ]
          refine wpList_run (v := .bool true) (wanted_none rfl) (ix_lss rfl rfl rfl (decide_eq_true y3)) ?_
          simp only [Act.put, List.setIfInBounds_toArray, List.set_cons_zero, List.set_cons_succ]
          by_cases heq : e.1 = (a : Int)
          · have HEQ := Lib.hid heq
            clear heq
            go_upto_region 18 with fail
            refine wp_region_lit ?_
            refine wpList_run (v := .slice (some ⟨b1, o1, none⟩) m0 c) (wanted_none rfl) (exec_move rfl rfl) ?_
            simp only [Act.put, List.setIfInBounds_toArray, List.set_cons_zero, List.set_cons_succ]
            refine wpList_run (v := .int .i64 (i : Int)) (wanted_none rfl) (exec_move rfl rfl) ?_
            simp only [Act.put, List.setIfInBounds_toArray, List.set_cons_zero, List.set_cons_succ]
            refine wpList_run (v := .pointer (some ⟨b1, o1 + i * 2, none⟩)) (wanted_none rfl) (gx_iaddr (i := i) (sz := 2) rfl rfl rfl Try.underlying35 size_ent HLT.out rfl) ?_
            simp only [Act.put, List.setIfInBounds_toArray, List.set_cons_zero, List.set_cons_succ]
            refine wpList_run (v := .pointer (some ⟨b1, o1 + i * 2 + 0, none⟩)) (wanted_none rfl) (exec_field (off := o1 + i * 2) (d := 0) rfl rfl (by kernel_rfl)) ?_
            simp only [Act.put, List.setIfInBounds_toArray, List.set_cons_zero, List.set_cons_succ]
            refine wpList_run (v := .int .i64 e.1) (wanted_none rfl) (exec_load1 rfl rfl (by kernel_rfl) HC0.out) ?_
            simp only [Act.put, List.setIfInBounds_toArray, List.set_cons_zero, List.set_cons_succ]
            refine wpList_run (v := .int .i64 (a : Int)) (wanted_none rfl) (exec_move rfl rfl) ?_
            simp only [Act.put, List.setIfInBounds_toArray, List.set_cons_zero, List.set_cons_succ]
            refine wpList_run (v := .bool true) (wanted_none rfl) (ix_eql rfl rfl rfl (decide_eq_true HEQ.out)) ?_
            simp only [Act.put, List.setIfInBounds_toArray, List.set_cons_zero, List.set_cons_succ]
            have HMZ := Lib.hid (mid_takeB (H.out.ok.1 a) HE.out.wf HMM.out i (a : Int))
            go_upto_region 19 with fail
            refine wp_region_alw (fun W => W.cell? ⟨b1, o1 + i * 2 + 0, none⟩ = some (.int .i64 e.1) ∧ W.cell? ⟨b1, o1 + i * 2 + 1, none⟩ = some (.int .i64 e.2)) (by kernel_rfl) ?_
            have hS0 : (fun W => W.cell? ⟨b1, o1 + i * 2 + 0, none⟩ = some (.int .i64 e.1) ∧ W.cell? ⟨b1, o1 + i * 2 + 1, none⟩ = some (.int .i64 e.2)) wr.drew := ⟨HC0.out, HC1.out⟩
            have HD := Lib.hid ((Turn.refl nowhere wr).drew)
            generalize wr.drew = wd at *
            have HBd := Lib.hid (HBX.out.turn HD.out fun e => e)
            have HTd := Lib.hid (HTI.out.trans HD.out fun _ _ e => e)
            clear HD
            refine alw_take (i := 1) (v := .slice (some ⟨b1, o1, none⟩) m0 c) rfl (by kernel_rfl) (by kernel_rfl) (fun _ _ _ h => h) (.inl ⟨by rfl, fun W hW => exec_move rfl rfl⟩) hS0 ?_
            simp only [Act.put, List.setIfInBounds_toArray, List.set_cons_zero, List.set_cons_succ]
            refine alw_take (i := 2) (v := .int .i64 (i : Int)) rfl (by kernel_rfl) (by kernel_rfl) (fun _ _ _ h => h) (.inl ⟨by rfl, fun W hW => exec_move rfl rfl⟩) hS0 ?_
            simp only [Act.put, List.setIfInBounds_toArray, List.set_cons_zero, List.set_cons_succ]
            refine alw_take (i := 3) (v := .pointer (some ⟨b1, o1 + i * 2, none⟩)) rfl (by kernel_rfl) (by kernel_rfl) (fun _ _ _ h => h) (.inl ⟨by rfl, fun W hW => gx_iaddr (i := i) (sz := 2) rfl rfl rfl Try.underlying35 size_ent HLT.out rfl⟩) hS0 ?_
            simp only [Act.put, List.setIfInBounds_toArray, List.set_cons_zero, List.set_cons_succ]
            refine alw_take (i := 4) (v := .pointer (some ⟨b1, o1 + i * 2 + 1, none⟩)) rfl (by kernel_rfl) (by kernel_rfl) (fun _ _ _ h => h) (.inl ⟨by rfl, fun W hW => exec_field (off := o1 + i * 2) (d := 1) rfl rfl (by kernel_rfl)⟩) hS0 ?_
            simp only [Act.put, List.setIfInBounds_toArray, List.set_cons_zero, List.set_cons_succ]
            refine alw_take (i := 5) (v := .int .i64 e.2) rfl (by kernel_rfl) (by kernel_rfl) (fun _ _ _ h => h) (.inl ⟨by rfl, fun W hW => exec_load1 rfl rfl (by kernel_rfl) hW.2⟩) hS0 ?_
            simp only [Act.put, List.setIfInBounds_toArray, List.set_cons_zero, List.set_cons_succ]
            refine alw_step (i := 0) (by kernel_rfl) rfl rfl ?_
            intro K1 HK1
            refine wp_run (v := .agg (wiA (b a + Lg.of (a : Int) (es.take i)))) (gx_loads rfl rfl (blk_range HBd.out) Try.underlying71 rfl (by rw [size_wi]; rfl)) ?_
            refine HK1.out _ _ ⟨hS0, ?_⟩
            clear HK1
            try simp only [Act.put, List.setIfInBounds_toArray, List.set_cons_zero, List.set_cons_succ]
            refine alw_step (i := 6) (by kernel_rfl) rfl rfl ?_
            intro K1 HK1
            go_wp2_with fail
            refine (wadd_walk (h := Lg.wiH (b a + Lg.of (a : Int) (es.take i))) (l := Lg.wiL (b a + Lg.of (a : Int) (es.take i))) wd (by have := mid_h HMZ.out; omega) (by have := mid_h HMZ.out; omega) HEW.out.2).mono ?_
            rintro e w8 ⟨rfl, ht⟩
            have hS1 : (fun W : World => W.cell? ⟨b1, o1 + i * 2 + 0, none⟩ = some (.int .i64 e.1) ∧ W.cell? ⟨b1, o1 + i * 2 + 1, none⟩ = some (.int .i64 e.2)) w8 := ⟨(ht.cell (World.block_lt_of_cell? _ _ hS0.1) fun e => e).trans hS0.1, (ht.cell (World.block_lt_of_cell? _ _ hS0.2) fun e => e).trans hS0.2⟩
            have HB8 := Lib.hid (HBd.out.turn ht fun e => e)
            have HT8 := Lib.hid (HTd.out.trans ht fun _ _ e => e)
            refine HK1.out _ _ ⟨⟨(ht.cell (World.block_lt_of_cell? _ _ hS0.1) (fun e => e)).trans hS0.1, (ht.cell (World.block_lt_of_cell? _ _ hS0.2) (fun e => e)).trans hS0.2⟩, ?_⟩
            clear HK1
            try simp only [Act.put, List.setIfInBounds_toArray, List.set_cons_zero, List.set_cons_succ]
            clear hS0 ht
            refine alw_step (i := 7) (by kernel_rfl) rfl rfl ?_
            intro K1 HK1
            go_wp2_with fail
            refine (weven_walk w8 (even_l HMZ.out HEW.out.2).1 (even_l HMZ.out HEW.out.2).2).mono ?_
            rintro e w9 ⟨rfl, ht⟩
            have hS2 : (fun W : World => W.cell? ⟨b1, o1 + i * 2 + 0, none⟩ = some (.int .i64 e.1) ∧ W.cell? ⟨b1, o1 + i * 2 + 1, none⟩ = some (.int .i64 e.2)) w9 := ⟨(ht.cell (World.block_lt_of_cell? _ _ hS1.1) fun e => e).trans hS1.1, (ht.cell (World.block_lt_of_cell? _ _ hS1.2) fun e => e).trans hS1.2⟩
            have HB9 := Lib.hid (HB8.out.turn ht fun e => e)
            have HT9 := Lib.hid (HT8.out.trans ht fun _ _ e => e)
            have hlt9 : b1 < w9.heap.size := World.block_lt_of_cell? _ _ hS2.1
            refine HK1.out _ _ ⟨⟨(ht.cell (World.block_lt_of_cell? _ _ hS1.1) (fun e => e)).trans hS1.1, (ht.cell (World.block_lt_of_cell? _ _ hS1.2) (fun e => e)).trans hS1.2⟩, ?_⟩
            clear HK1
            try simp only [Act.put, List.setIfInBounds_toArray, List.set_cons_zero, List.set_cons_succ]
            rw [even_wi]
            clear ht hS1
            refine alw_step (i := 8) (by kernel_rfl) rfl rfl ?_
            intro K1 HK1
            refine wp_store_rowU 71 (.tmp 9) (.tmp 89) rfl (wiA (b a + Lg.of (a : Int) (es.take i) + e.2)) HB9.out rfl rfl rfl (by rw [size_wi]; rfl) (hlA_one _ _) ?_
            intro wa hba hta
            refine HK1.out _ _ ⟨⟨(hta.cell (p := ⟨b1, o1 + i * 2 + 0, none⟩) hlt9 (fun e => HNB.out e)).trans hS2.1, (hta.cell (p := ⟨b1, o1 + i * 2 + 1, none⟩) hlt9 (fun e => HNB.out e)).trans hS2.2⟩, ?_⟩
            clear HK1
            try simp only [Act.put, List.setIfInBounds_toArray, List.set_cons_zero, List.set_cons_succ]
            have HBa := Lib.hid hba
            have HTa0 := Lib.hid hta
            clear hba hta hS2 hlt9
            refine alw_done rfl ?_
            refine NoPanic.normal ?_
            have HXa := Lib.hid (show Blk wa x 71 (wiA (b a + Lg.of (a : Int) (es.take (i + 1)))) from by
              rw [Lg.take_snoc HEI.out, Lg.of_snoc, if_pos HEQ.out, ← Int.add_assoc]; exact HBa.out)
            have HTa := Lib.hid (HT9.out.trans HTa0.out fun k hk e => by have := HLx3.out; have e : k = x := e; omega)
            go_upto_region 17 with fail
            refine wp_region_lit ?_
            refine wpList_run (v := .int .i64 (i : Int)) (wanted_none rfl) (exec_move rfl rfl) ?_
            simp only [Act.put, List.setIfInBounds_toArray, List.set_cons_zero, List.set_cons_succ]
            refine wpList_run (v := .int .i64 ((i + 1 : Nat) : Int)) (wanted_none rfl) (ix_add rfl rfl rfl (by omega) (by omega)) ?_
            simp only [Act.put, List.setIfInBounds_toArray, List.set_cons_zero, List.set_cons_succ]
            refine wpList_run (v := .int .i64 ((i + 1 : Nat) : Int)) (wanted_none rfl) (gx_assign rfl rfl) ?_
            simp only [Act.put, List.setIfInBounds_toArray, List.set_cons_zero, List.set_cons_succ]
            go_wp2_with fail
            go_roundg (m0 - (i + 1))
            case measure => have := HGK.out; have := HLT.out; omega
            case rel => exact ⟨i + 1, rfl, by have := HLT.out; omega, HXa.out, HTa.out⟩
          · have HEQ := Lib.hid heq
            clear heq
            go_upto_region 18 with fail
            refine wp_region_lit ?_
            refine wpList_run (v := .slice (some ⟨b1, o1, none⟩) m0 c) (wanted_none rfl) (exec_move rfl rfl) ?_
            simp only [Act.put, List.setIfInBounds_toArray, List.set_cons_zero, List.set_cons_succ]
            refine wpList_run (v := .int .i64 (i : Int)) (wanted_none rfl) (exec_move rfl rfl) ?_
            simp only [Act.put, List.setIfInBounds_toArray, List.set_cons_zero, List.set_cons_succ]
            refine wpList_run (v := .pointer (some ⟨b1, o1 + i * 2, none⟩)) (wanted_none rfl) (gx_iaddr (i := i) (sz := 2) rfl rfl rfl Try.underlying35 size_ent HLT.out rfl) ?_
            simp only [Act.put, List.setIfInBounds_toArray, List.set_cons_zero, List.set_cons_succ]
            refine wpList_run (v := .pointer (some ⟨b1, o1 + i * 2 + 0, none⟩)) (wanted_none rfl) (exec_field (off := o1 + i * 2) (d := 0) rfl rfl (by kernel_rfl)) ?_
            simp only [Act.put, List.setIfInBounds_toArray, List.set_cons_zero, List.set_cons_succ]
            refine wpList_run (v := .int .i64 e.1) (wanted_none rfl) (exec_load1 rfl rfl (by kernel_rfl) HC0.out) ?_
            simp only [Act.put, List.setIfInBounds_toArray, List.set_cons_zero, List.set_cons_succ]
            refine wpList_run (v := .int .i64 (a : Int)) (wanted_none rfl) (exec_move rfl rfl) ?_
            simp only [Act.put, List.setIfInBounds_toArray, List.set_cons_zero, List.set_cons_succ]
            refine wpList_run (v := .bool false) (wanted_none rfl) (ix_eql rfl rfl rfl (decide_eq_false HEQ.out)) ?_
            simp only [Act.put, List.setIfInBounds_toArray, List.set_cons_zero, List.set_cons_succ]
            have HXa := Lib.hid (show Blk wr x 71 (wiA (b a + Lg.of (a : Int) (es.take (i + 1)))) from by
              rw [Lg.take_snoc HEI.out, Lg.of_snoc, if_neg HEQ.out, Int.add_zero]; exact HBX.out)
            go_upto_region 17 with fail
            refine wp_region_lit ?_
            refine wpList_run (v := .int .i64 (i : Int)) (wanted_none rfl) (exec_move rfl rfl) ?_
            simp only [Act.put, List.setIfInBounds_toArray, List.set_cons_zero, List.set_cons_succ]
            refine wpList_run (v := .int .i64 ((i + 1 : Nat) : Int)) (wanted_none rfl) (ix_add rfl rfl rfl (by omega) (by omega)) ?_
            simp only [Act.put, List.setIfInBounds_toArray, List.set_cons_zero, List.set_cons_succ]
            refine wpList_run (v := .int .i64 ((i + 1 : Nat) : Int)) (wanted_none rfl) (gx_assign rfl rfl) ?_
            simp only [Act.put, List.setIfInBounds_toArray, List.set_cons_zero, List.set_cons_succ]
            go_wp2_with fail
            go_roundg (m0 - (i + 1))
            case measure => have := HGK.out; have := HLT.out; omega
            case rel => exact ⟨i + 1, rfl, by have := HLT.out; omega, HXa.out, HTI.out⟩
        · have htk : es.take i = es := List.take_of_length_le (by rw [← HLEN.out]; omega)
          have HBXz := Lib.hid (show Blk wr x 71 (wiA (b a + Lg.of (a : Int) es)) from by have := HBX.out; rwa [htk] at this)
          have hmz := mid_takeB (H.out.ok.1 a) HE.out.wf HMM.out i (a : Int)
          rw [htk] at hmz
          have HMZ := Lib.hid hmz
          have y4 : ¬ (i : Int) < (m0 : Int) := by omega
          clear hlt htk hmz HBX
          obtain ⟨z, hz⟩ : ∃ z, z = b a + Lg.of (a : Int) es := ⟨_, rfl⟩
          rw [← hz] at HBXz HMZ
          have HZ1 := Lib.hid hz
          clear hz
          go_upto_region 16 with fail
          refine wp_region_lit ?_
          refine wpList_run (v := .int .i64 (i : Int)) (wanted_none rfl) (exec_move rfl rfl) ?_
          simp only [Act.put, List.setIfInBounds_toArray, List.set_cons_zero, List.set_cons_succ]
          refine wpList_run (v := .slice A m0 c) (wanted_none rfl) (exec_move rfl rfl) ?_
          simp only [Act.put, List.setIfInBounds_toArray, List.set_cons_zero, List.set_cons_succ]
          refine wpList_run (v := .int .i64 (m0 : Int)) (wanted_none rfl) (gx_len rfl rfl Try.underlying35) ?_
          simp only [Act.put, List.setIfInBounds_toArray, List.set_cons_zero, List.set_cons_succ]
          refine wpList_run (v := .bool false) (wanted_none rfl) (ix_lss rfl rfl rfl (decide_eq_false y4)) ?_
          simp only [Act.put, List.setIfInBounds_toArray, List.set_cons_zero, List.set_cons_succ]
          go_upto_region 20 with fail
          refine wp_region_lit ?_
          refine wpList_run (v := .agg (wiA z)) (wanted_none rfl) (gx_loads rfl rfl (blk_range HBXz.out) Try.underlying71 rfl (by rw [size_wi]; rfl)) ?_
          simp only [Act.put, List.setIfInBounds_toArray, List.set_cons_zero, List.set_cons_succ]
          refine wpList_op rfl fun K9 HK9 => ?_
          go_wp2_with fail
          refine (wfits_walk wr HMZ.out).mono ?_
          rintro e w6 ⟨rfl, ht⟩
          refine HK9.out _ _ ?_
          clear HK9
          try simp only [Act.put, List.setIfInBounds_toArray, List.set_cons_zero, List.set_cons_succ]
          have HT6 := Lib.hid (HTR.out.trans ht fun _ _ e => e)
          have HT6o := Lib.hid (HTI.out.trans ht fun _ _ e => e)
          clear ht
          refine wpList_run (v := .tuple #[.int .i64 (fitV z), .bool (decide (Mn.in64 z))]) (wanted_none rfl) (exec_move rfl rfl) ?_
          simp only [Act.put, List.setIfInBounds_toArray, List.set_cons_zero, List.set_cons_succ]
          refine wpList_run (v := .int .i64 (fitV z)) (wanted_none rfl) (ix_extract rfl rfl rfl) ?_
          simp only [Act.put, List.setIfInBounds_toArray, List.set_cons_zero, List.set_cons_succ]
          refine wpList_run (v := .bool (decide (Mn.in64 z))) (wanted_none rfl) (ix_extract rfl rfl rfl) ?_
          simp only [Act.put, List.setIfInBounds_toArray, List.set_cons_zero, List.set_cons_succ]
          refine wpList_run (v := .int .i64 (fitV z)) (wanted_none rfl) (gx_assign rfl rfl) ?_
          simp only [Act.put, List.setIfInBounds_toArray, List.set_cons_zero, List.set_cons_succ]
          refine wpList_run (v := .bool (decide (Mn.in64 z))) (wanted_none rfl) (gx_assign rfl rfl) ?_
          simp only [Act.put, List.setIfInBounds_toArray, List.set_cons_zero, List.set_cons_succ]
          by_cases hin : Mn.in64 z
          · have HIN := Lib.hid hin
            rw [show fitV z = z from if_pos hin, decide_eq_true hin]
            clear hin
            go_upto_region 21 with fail
            refine wp_region_lit ?_
            refine wpList_run (v := .bool true) (wanted_none rfl) (exec_move rfl rfl) ?_
            simp only [Act.put, List.setIfInBounds_toArray, List.set_cons_zero, List.set_cons_succ]
            refine wpList_run (v := .bool false) (wanted_none rfl) (ix_not (b := true) rfl rfl) ?_
            simp only [Act.put, List.setIfInBounds_toArray, List.set_cons_zero, List.set_cons_succ]
            obtain ⟨A6, c6, w7, hap, ho7, ht7⟩ := orw_add elmN (ty := 32) (W1 := w) (HOR.out.still HT6o.out) HT6.out (one1 z) rfl (one1_one z) (by rw [nums_len]; have := HN7.out; have := HLA.out; omega)
            rw [nums_len] at hap ho7
            rw [HZ1.out, ← nums_snoc a (fun k => b k + Lg.of (k : Int) es)] at ho7
            have HAP := Lib.hid hap
            have HO7 := Lib.hid ho7
            have HT7 := Lib.hid ht7
            clear hap ho7 ht7
            go_upto_region 23 with fail
            refine wp_region_lit ?_
            refine wpList_run (v := .slice A5 a c5) (wanted_none rfl) (exec_move rfl rfl) ?_
            simp only [Act.put, List.setIfInBounds_toArray, List.set_cons_zero, List.set_cons_succ]
            refine wpList_run (v := .int .i64 z) (wanted_none rfl) (exec_move rfl rfl) ?_
            simp only [Act.put, List.setIfInBounds_toArray, List.set_cons_zero, List.set_cons_succ]
            refine wpList_run (v := .slice (some ⟨w6.heap.size, 0, none⟩) 1 1) (w' := w6.alloc (.cells (one1 z).toArray 3)) (wanted_none rfl) (exec_buildSlice1 rfl rfl (build_one elmN (one1 z) rfl (by decide) _ rfl w6)) ?_
            simp only [Act.put, List.setIfInBounds_toArray, List.set_cons_zero, List.set_cons_succ]
            refine wpList_run (v := .slice A6 (a + 1) c6) (w' := w7) (wanted_none rfl) (exec_append rfl rfl rfl HAP.out) ?_
            simp only [Act.put, List.setIfInBounds_toArray, List.set_cons_zero, List.set_cons_succ]
            refine wpList_run (v := .slice A6 (a + 1) c6) (wanted_none rfl) (gx_assign rfl rfl) ?_
            simp only [Act.put, List.setIfInBounds_toArray, List.set_cons_zero, List.set_cons_succ]
            go_upto_region 13 with fail
            refine wp_region_lit ?_
            refine wpList_run (v := .int .i64 (a : Int)) (wanted_none rfl) (exec_move rfl rfl) ?_
            simp only [Act.put, List.setIfInBounds_toArray, List.set_cons_zero, List.set_cons_succ]
            refine wpList_run (v := .int .i64 ((a + 1 : Nat) : Int)) (wanted_none rfl) (ix_add rfl rfl rfl (by omega) (by omega)) ?_
            simp only [Act.put, List.setIfInBounds_toArray, List.set_cons_zero, List.set_cons_succ]
            refine wpList_run (v := .int .i64 ((a + 1 : Nat) : Int)) (wanted_none rfl) (gx_assign rfl rfl) ?_
            simp only [Act.put, List.setIfInBounds_toArray, List.set_cons_zero, List.set_cons_succ]
            go_wp2_with fail
            go_roundg (n - (a + 1))
            case measure => have := HGA.out; have := HLA.out; have := HGO.out; omega
            case rel => exact ⟨a + 1, rfl, by have := HLA.out; omega, (fun k hk => by
              rcases Nat.lt_succ_iff_lt_or_eq.1 hk with h | h
              · exact HALL.out k h
              · subst h; rw [← HZ1.out]; exact HIN.out), HO7.out, HT7.out⟩
          · have HPE := Lib.hid (post_no (b := b) HACCz.out HZ.out HLA.out (by rw [← HZ1.out]; exact hin))
            rw [show fitV z = 0 from if_neg hin, decide_eq_false hin]
            clear hin
            go_upto_region 21 with fail
            refine wp_region_lit ?_
            refine wpList_run (v := .bool false) (wanted_none rfl) (exec_move rfl rfl) ?_
            simp only [Act.put, List.setIfInBounds_toArray, List.set_cons_zero, List.set_cons_succ]
            refine wpList_run (v := .bool true) (wanted_none rfl) (ix_not (b := false) rfl rfl) ?_
            simp only [Act.put, List.setIfInBounds_toArray, List.set_cons_zero, List.set_cons_succ]
            go_upto_region 22 with fail
            refine wp_region_lit ?_
            refine wpList_run (v := .int .i64 100) (wanted_none rfl) (gx_assign rfl rfl) ?_
            simp only [Act.put, List.setIfInBounds_toArray, List.set_cons_zero, List.set_cons_succ]
            go_wp2_with fail
            go_ret
            exact RPostP.bad H.out HPE.out (by decide) HT6.out
      · obtain rfl : a = n := by omega
        have HPE := Lib.hid (post_yes HACCz.out HZ.out HALL.out)
        have HY := Lib.hid (H.out.still HTA.out)
        clear hlt
        go_upto_region 12 with fail
        refine wp_region_lit ?_
        refine wpList_run (v := .int .i64 (a : Int)) (wanted_none rfl) (exec_move rfl rfl) ?_
        simp only [Act.put, List.setIfInBounds_toArray, List.set_cons_zero, List.set_cons_succ]
        refine wpList_run (v := .pointer (some ⟨y, 0, none⟩)) (wanted_none rfl) (exec_move rfl rfl) ?_
        simp only [Act.put, List.setIfInBounds_toArray, List.set_cons_zero, List.set_cons_succ]
        refine wpList_run (v := .pointer (some ⟨y, 0, none⟩)) (wanted_none rfl) (exec_nil rfl rfl) ?_
        simp only [Act.put, List.setIfInBounds_toArray, List.set_cons_zero, List.set_cons_succ]
        refine wpList_run (v := .pointer (some ⟨y, 0, none⟩)) (wanted_none rfl) (exec_field (off := 0) (d := 0) rfl rfl (by kernel_rfl)) ?_
        simp only [Act.put, List.setIfInBounds_toArray, List.set_cons_zero, List.set_cons_succ]
        refine wpList_run (v := .slice (some ⟨gv, 0, none⟩) a cv) (wanted_none rfl) (exec_load1 rfl rfl (by kernel_rfl) (HY.out.blk.cell 0)) ?_
        simp only [Act.put, List.setIfInBounds_toArray, List.set_cons_zero, List.set_cons_succ]
        refine wpList_run (v := .int .i64 (a : Int)) (wanted_none rfl) (gx_len rfl rfl Try.underlying32) ?_
        simp only [Act.put, List.setIfInBounds_toArray, List.set_cons_zero, List.set_cons_succ]
        refine wpList_run (v := .bool false) (wanted_none rfl) (ix_lss rfl rfl rfl (by simp)) ?_
        simp only [Act.put, List.setIfInBounds_toArray, List.set_cons_zero, List.set_cons_succ]
        go_upto_region 24 with fail
        refine wp_region_lit ?_
        refine wpList_run (v := .pointer (some ⟨y, 0, none⟩)) (wanted_none rfl) (exec_move rfl rfl) ?_
        simp only [Act.put, List.setIfInBounds_toArray, List.set_cons_zero, List.set_cons_succ]
        refine wpList_run (v := .slice A5 a c5) (wanted_none rfl) (exec_move rfl rfl) ?_
        simp only [Act.put, List.setIfInBounds_toArray, List.set_cons_zero, List.set_cons_succ]
        refine wpList_run (v := .pointer (some ⟨y, 0, none⟩)) (wanted_none rfl) (exec_nil rfl rfl) ?_
        simp only [Act.put, List.setIfInBounds_toArray, List.set_cons_zero, List.set_cons_succ]
        refine wpList_run (v := .pointer (some ⟨y, 0, none⟩)) (wanted_none rfl) (exec_field (off := 0) (d := 0) rfl rfl (by kernel_rfl)) ?_
        simp only [Act.put, List.setIfInBounds_toArray, List.set_cons_zero, List.set_cons_succ]
        refine wpList_storeU 0 (.slice A5 a c5) rfl 32 (.tmp 104) (.tmp 102) rfl HY.out.blk rfl rfl Nat.zero_lt_one ⟨rfl, rfl⟩ (by kernel_rfl) ?_
        intro w9 hb9 ht9
        have HB9 := Lib.hid (show Blk w9 y 34 #[.slice A5 a c5] from hb9)
        have HO9 := Lib.hid (HOR.out.turn ht9 fun g hg e => HOR.out.ne HY.out.blk (by decide) g hg (show g = y from e))
        have HT9 := Lib.hid ((HTA.out.mono fun _ _ e => e.elim).trans ht9 fun _ _ e => e)
        clear hb9 ht9
        simp only [Act.put, List.setIfInBounds_toArray, List.set_cons_zero, List.set_cons_succ]
        go_upto_region 25 with fail
        refine wp_region_lit ?_
        refine wpList_run (v := .int .i64 0) (wanted_none rfl) (gx_assign rfl rfl) ?_
        simp only [Act.put, List.setIfInBounds_toArray, List.set_cons_zero, List.set_cons_succ]
        go_wp2_with fail
        go_ret
        exact ⟨by rw [HPE.out]; rfl, ⟨_, HB9.out, by rw [Lg.postB_ok HPE.out]; exact HO9.out.less (Nat.zero_le _), H.out.ac, Lg.okb_post H.out.ok es⟩, HT9.out⟩
    · have HPE := Lib.hid (post_sum (b := b) HACCz.out hz)
      have HZ := Lib.hid hz
      clear hz
      go_upto_region 8 with fail
      refine wp_region_lit ?_
      refine wpList_run (v := .agg (wiA (Lg.tot es))) (wanted_none rfl) (gx_loads rfl rfl (blk_range HBQz.out) Try.underlying71 rfl (by rw [size_wi]; rfl)) ?_
      simp only [Act.put, List.setIfInBounds_toArray, List.set_cons_zero, List.set_cons_succ]
      refine wpList_run (v := .agg (wiA 0)) (wanted_none rfl) (gx_build0 rfl (build_wi0 _)) ?_
      simp only [Act.put, List.setIfInBounds_toArray, List.set_cons_zero, List.set_cons_succ]
      refine wpList_run (v := .bool true) (wanted_none rfl) (wi_neq rfl rfl rfl (decide_eq_true HZ.out)) ?_
      simp only [Act.put, List.setIfInBounds_toArray, List.set_cons_zero, List.set_cons_succ]
      go_upto_region 9 with fail
      refine wp_region_lit ?_
      refine wpList_run (v := .int .i64 120) (wanted_none rfl) (gx_assign rfl rfl) ?_
      simp only [Act.put, List.setIfInBounds_toArray, List.set_cons_zero, List.set_cons_succ]
      go_wp2_with fail
      go_ret
      exact RPostP.bad H.out HPE.out (by decide) HTR.out
end Go.Proofs.Ythoefjaapjaeeaa
