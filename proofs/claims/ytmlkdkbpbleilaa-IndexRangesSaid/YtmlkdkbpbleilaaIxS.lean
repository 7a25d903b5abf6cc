/-
  Index: a node that is too full in two. No conditions.
-/
import Derived.Test.YtmlkdkbpbleilaaIxK
namespace Go.Proofs.Ytmlkdkbpbleilaa
open Go.RowKit
open Ix
set_option linter.unusedVariables false
set_option linter.unusedSimpArgs false
theorem ix_quo {a : Act} {o : Oper} {W : World} {x y : Operand} {n m : Nat} (ho : o.op = .binOp .quo 3 x y 3) (hx : a.eval x = .int .i64 (n : Int)) (hy : a.eval y = .int .i64 (m : Int)) (hm : 0 < m) (hn : n ≤ 9223372036854775807) : (execOp a.eval o).run Try.prog W = .ok (.value (.int .i64 ((n / m : Nat) : Int))) W := by
  have hm1 : (m : Int) ≠ 0 := by omega
  obtain ⟨q, hq⟩ : ∃ q : Nat, q = n / m := ⟨_, rfl⟩
  have hlt : q ≤ n := by rw [hq]; exact Nat.div_le_self _ _
  have e : (n : Int).tdiv (m : Int) = (q : Int) := by rw [hq]; rfl
  rw [← hq]
  have hw : IntKind.i64.wrap (q : Int) = (q : Int) := by rw [IntKind.wrap_i64]; omega
  unfold execOp
  simp only [ho, hx, hy]
  go_simp
  rw [if_neg (by omega), show IntKind.i64.wrap ((n : Int) / (m : Int)) = (n : Int) / (m : Int) from by rw [← Int.natCast_ediv, ← hq]; exact hw]
theorem gx_build1 {P : Program} {a : Act} {o : Oper} {t : TypeId} {x0 : Operand} {u0 r : Value} {W : World} (ho : o.op = .build t #[(0, x0)]) (h0 : a.eval x0 = u0)
    (h : (Instr.build t #[(0, u0)]).run P W = .ok r W) : (execOp a.eval o).run P W = .ok (.value r) W := by
  unfold execOp
  simp only [ho, List.map_toArray, List.map_cons, List.map_nil, h0, h, Sem.run_bind, Sem.run_pure, Result.andThen_ok]
theorem gx_box {P : Program} {a : Act} {o : Oper} {t : TypeId} {x : Operand} {cs : Array Value} {W W' : World} {v : Value} (ho : o.op = .box t x) (hx : a.eval x = .agg cs) (h : (Instr.box t (.agg cs)).run P W = .ok v W') : (execOp a.eval o).run P W = .ok (.value v) W' := by
  unfold execOp
  simp only [ho, hx, h, Sem.run_bind, Sem.run_pure, Result.andThen_ok]
theorem box_node (A : Option Addr) (n c : Nat) (A2 : Option Addr) (n2 c2 : Nat) (w : World) : (Instr.box 62 (.agg #[.slice A n c, .slice A2 n2 c2])).run Try.prog w = .ok (.pointer (some ⟨w.heap.size, 0, none⟩)) (w.alloc (.cells #[.slice A n c, .slice A2 n2 c2] 62)) := by
  simp [Instr.box, newVar, newRow, Result.andThen, Value.cells]
theorem build_node1 (A : Option Addr) (n c : Nat) (w : World) : (Instr.build 62 #[(0, .slice A n c)]).run Try.prog w = .ok (.agg #[.slice A n c, .slice none 0 0]) w := by kernel_rfl
theorem gx_not {a : Act} {o : Oper} {W : World} {x : Operand} {b r : Bool} {t : TypeId} (ho : o.op = .unOp .not t x) (hx : a.eval x = .bool b) (hr : (!b) = r) : (execOp a.eval o).run Try.prog W = .ok (.value (.bool r)) W := by
  subst hr
  unfold execOp
  simp only [ho, hx]
  go_simp
theorem ret_cell2 {P : Program} {fn : Func} {p u : Tmp} {ty : TypeId} (h : fn.results = #[.cell p ty, .tmp u]) (tmps : Array Value) (w : World) (g : Nat) (t : TypeId) (cs : Array Value) (d : TypeDesc) {v : Value}
    (hp : tmps.getD p undef = .pointer (some ⟨g, 0, none⟩)) (hv : tmps.getD u undef = v) (hg : Blk w g t cs) (hu : P.underlying ty = some d) (hd : (match d with | .struct _ | .array _ _ => true | _ => false) = true) (hi : (P.info? ty).map (·.size) = some cs.size) :
    (results fn tmps).run P w = .ok (.tuple #[.agg cs, v]) w := by
  subst hv
  have hp' : tmps[p]?.getD undef = .pointer (some ⟨g, 0, none⟩) := by simpa using hp
  rw [results_cell_tmp h]
  simp [hp', asAddr, run_loadVar_row w g t ty cs (0, 0) d hg hu hd hi, Result.andThen]
/-- a block that no node knows -/
def Aux (w : World) (H : Hp) (g : Nat) (t : TypeId) (cs : Array Value) : Prop := Blk w g t cs ∧ ¬ foot H g
theorem Aux.to {w w' : World} {H H' : Hp} {g : Nat} {t : TypeId} {cs : Array Value} (h : Aux w H g t cs) (ht : To w H w' H') : Aux w' H' g t cs := ⟨h.1.turn ht.turn h.2, fun e => by
  rcases ht.foot _ e with e | e
  · exact h.2 e
  · have := h.1.lt; omega⟩
theorem Aux.still {w w' : World} {H : Hp} {g : Nat} {t : TypeId} {cs : Array Value} (h : Aux w H g t cs) (ht : Turn nowhere w w') : Aux w' H g t cs := ⟨h.1.turn ht fun e => e, h.2⟩
theorem Aux.new {w0 w : World} {H : Hp} (h : In w0 H) {g : Nat} {t : TypeId} {cs : Array Value} (hg : w0.heap.size ≤ g) (hb : Blk w g t cs) : Aux w H g t cs := ⟨hb, fun e => by have := h.foot_lt e; omega⟩
/-- a store into such a block -/
theorem To.aux {w0 w w' : World} {H0 H : Hp} {g : Nat} {t : TypeId} {cs : Array Value} (h : To w0 H0 w H) (hg : w0.heap.size ≤ g) (ha : Aux w H g t cs) (ht : Turn (only g) w w') : To w0 H0 w' H :=
  ⟨h.in_.turn ht fun b e => by have e : b = g := e; rw [e]; exact ha.2, h.turn.trans ht fun k hk e => (by have e : k = g := e; omega), h.foot⟩
set_option maxRecDepth 20000 in
set_option maxHeartbeats 4000000 in
theorem split_walk {w : World} {H : Hp} {p : Nat} {ps : List Pr} {ks : List Nat} {x : Pr} (hin : In w H) (hp : Is H p ps ks) (hx : ps[ps.length / 2]? = some x) (hl : ps.length < 100000) (hk : ks = [] ∨ ks.length = ps.length + 1) :
    Calls Try.prog 27 #[.pointer (some ⟨p, 0, none⟩)] w fun e w' => ∃ r H', e = .returned (.tuple #[.agg (encP x).toArray, .pointer (some ⟨r, 0, none⟩)]) ∧ w.heap.size ≤ r ∧ To w H w' H' ∧
      Is H' p (ps.take (ps.length / 2)) (ks.take (ps.length / 2 + 1)) ∧ Is H' r (ps.drop (ps.length / 2 + 1)) (ks.drop (ps.length / 2 + 1)) ∧ Same H H' (fun q => q = p ∨ q = r) := by
  obtain ⟨vp, vk, hp⟩ := hp
  have hn : NodeAt w p vp vk ps ks := hin.at_ hp
  obtain ⟨h2, hh2⟩ : ∃ h2, h2 = ps.length / 2 := ⟨_, rfl⟩
  rw [← hh2] at hx ⊢
  have hi : h2 < ps.length := (List.getElem?_eq_some_iff.1 hx).1
  obtain ⟨b, c, e, hnc, hcm⟩ := hn.prs.some_ (by rw [List.length_map]; omega)
  rw [List.length_map] at e hnc
  obtain ⟨Ak, ck, ek, hzk⟩ := krows_of hn.kds
  obtain ⟨m, hml⟩ : ∃ m, m = ks.length := ⟨_, rfl⟩
  rw [← hml] at ek
  obtain ⟨n, hnl⟩ : ∃ n, n = ps.length := ⟨_, rfl⟩
  rw [← hnl] at e hnc hi hl hk hh2
  subst e ek
  have hb0 := Blk.new w 65 #[.string ⟨#[]⟩, .int .i64 0]
  have hu0 := (Turn.refl nowhere w).alloc (.cells #[.string ⟨#[]⟩, .int .i64 0] 65)
  have HIN := Lib.hid hin
  have HP := Lib.hid hp
  have HX := Lib.hid hx
  have HLT := Lib.hid hi
  have HL := Lib.hid hl
  have HNL := Lib.hid hnl
  have HML := Lib.hid hml
  have HK := Lib.hid hk
  have HH := Lib.hid hh2
  have HNC := Lib.hid hnc
  have HZK := Lib.hid hzk
  have y1 : (h2 : Int) < (n : Int) := by omega
  have y2 : (n : Int) ≤ 100000 := by omega
  clear hin hp hx hi hl hnl hml hk hh2 hn hnc hcm hzk
  go_enter Try.func27, Try.ntmps27
  go_upto_region 1 with fail
  obtain ⟨b0, hg0⟩ : ∃ g, g = w.heap.size := ⟨_, rfl⟩
  rw [← hg0] at hb0 ⊢
  generalize w.alloc (.cells #[.string ⟨#[]⟩, .int .i64 0] 65) = w1 at *
  have HA0 := Lib.hid (Aux.new HIN.out (show w.heap.size ≤ b0 by omega) hb0)
  have HG0 := Lib.hid (show w.heap.size ≤ b0 by omega)
  have HT1 := Lib.hid hu0
  have HI1 := Lib.hid (HIN.out.still hu0)
  clear hb0 hu0 hg0
  have HN1 := Lib.hid (show NodeAt w1 p (.slice (some ⟨b, 0, none⟩) n c) (.slice Ak m ck) ps ks from HI1.out.at_ HP.out)
  refine wp_region_lit ?_
  refine wpList_run (v := .pointer (some ⟨p, 0, none⟩)) rfl (exec_move rfl rfl) ?_
  simp only [Act.put, List.setIfInBounds_toArray, List.set_cons_zero, List.set_cons_succ]
  refine wpList_run (v := .pointer (some ⟨p, 0, none⟩)) rfl (exec_nil rfl rfl) ?_
  simp only [Act.put, List.setIfInBounds_toArray, List.set_cons_zero, List.set_cons_succ]
  refine wpList_run (v := .pointer (some ⟨p, 0, none⟩)) rfl (exec_field (off := 0) (d := 0) rfl rfl (by kernel_rfl)) ?_
  simp only [Act.put, List.setIfInBounds_toArray, List.set_cons_zero, List.set_cons_succ]
  refine wpList_run (v := .slice (some ⟨b, 0, none⟩) n c) rfl (exec_load1 rfl rfl (by kernel_rfl) (HN1.out.blk.cell 0)) ?_
  simp only [Act.put, List.setIfInBounds_toArray, List.set_cons_zero, List.set_cons_succ]
  refine wpList_run (v := .int .i64 (n : Int)) rfl (gx_len rfl rfl Try.underlying59) ?_
  simp only [Act.put, List.setIfInBounds_toArray, List.set_cons_zero, List.set_cons_succ]
  refine wpList_run (v := .int .i64 (h2 : Int)) rfl (by rw [HH.out]; exact ix_quo (n := n) (m := 2) rfl rfl rfl (by decide) (by omega)) ?_
  simp only [Act.put, List.setIfInBounds_toArray, List.set_cons_zero, List.set_cons_succ]
  refine wpList_run (v := .int .i64 (h2 : Int)) rfl (gx_assign rfl rfl) ?_
  simp only [Act.put, List.setIfInBounds_toArray, List.set_cons_zero, List.set_cons_succ]
  go_upto_region 2 with fail
  refine wp_region_lit ?_
  refine wpList_run (v := .pointer (some ⟨p, 0, none⟩)) rfl (exec_move rfl rfl) ?_
  simp only [Act.put, List.setIfInBounds_toArray, List.set_cons_zero, List.set_cons_succ]
  refine wpList_run (v := .pointer (some ⟨p, 0, none⟩)) rfl (exec_nil rfl rfl) ?_
  simp only [Act.put, List.setIfInBounds_toArray, List.set_cons_zero, List.set_cons_succ]
  refine wpList_run (v := .pointer (some ⟨p, 0, none⟩)) rfl (exec_field (off := 0) (d := 0) rfl rfl (by kernel_rfl)) ?_
  simp only [Act.put, List.setIfInBounds_toArray, List.set_cons_zero, List.set_cons_succ]
  refine wpList_run (v := .slice (some ⟨b, 0, none⟩) n c) rfl (exec_load1 rfl rfl (by kernel_rfl) (HN1.out.blk.cell 0)) ?_
  simp only [Act.put, List.setIfInBounds_toArray, List.set_cons_zero, List.set_cons_succ]
  refine wpList_run (v := .int .i64 (h2 : Int)) rfl (exec_move rfl rfl) ?_
  simp only [Act.put, List.setIfInBounds_toArray, List.set_cons_zero, List.set_cons_succ]
  refine wpList_run (v := .pointer (some ⟨b, 0 + h2 * 2, none⟩)) rfl (gx_iaddr (i := h2) (sz := 2) rfl rfl rfl Try.underlying59 size_pair HLT.out rfl) ?_
  simp only [Act.put, List.setIfInBounds_toArray, List.set_cons_zero, List.set_cons_succ]
  refine wpList_run (v := .agg (encP x).toArray) rfl (gx_loads rfl rfl (HN1.out.prs.el0 (by rw [List.getElem?_map, HX.out]; rfl)) Try.underlying65 rfl (by rw [size_pair]; rfl)) ?_
  simp only [Act.put, List.setIfInBounds_toArray, List.set_cons_zero, List.set_cons_succ]
  refine wpList_new 65 (.tmp 5) (.tmp 19) (encP x).toArray rfl rfl (zero_pair _) rfl rfl rfl rfl rfl rfl (by rw [size_pair]; rfl) (fun v hv => encP_one x v (by simpa using hv)) ?_
  intro w2 g5 hge hb5 ht2
  simp only [Act.put, List.setIfInBounds_toArray, List.set_cons_zero, List.set_cons_succ]
  have HA5 := Lib.hid (Aux.new HIN.out (Nat.le_trans HT1.out.size hge) hb5)
  have HT2 := Lib.hid (HT1.out.trans ht2 fun _ _ e => e)
  have HI2 := Lib.hid (HI1.out.still ht2)
  have HA02 := Lib.hid (HA0.out.still ht2)
  have HN2 := Lib.hid (show NodeAt w2 p (.slice (some ⟨b, 0, none⟩) n c) (.slice Ak m ck) ps ks from HI2.out.at_ HP.out)
  clear hb5 ht2 hge
  go_upto_region 3 with fail
  refine wp_region_lit ?_
  refine wpList_run (v := .pointer (some ⟨p, 0, none⟩)) rfl (exec_move rfl rfl) ?_
  simp only [Act.put, List.setIfInBounds_toArray, List.set_cons_zero, List.set_cons_succ]
  refine wpList_run (v := .pointer (some ⟨p, 0, none⟩)) rfl (exec_nil rfl rfl) ?_
  simp only [Act.put, List.setIfInBounds_toArray, List.set_cons_zero, List.set_cons_succ]
  refine wpList_run (v := .pointer (some ⟨p, 0, none⟩)) rfl (exec_field (off := 0) (d := 0) rfl rfl (by kernel_rfl)) ?_
  simp only [Act.put, List.setIfInBounds_toArray, List.set_cons_zero, List.set_cons_succ]
  refine wpList_run (v := .slice (some ⟨b, 0, none⟩) n c) rfl (exec_load1 rfl rfl (by kernel_rfl) (HN2.out.blk.cell 0)) ?_
  simp only [Act.put, List.setIfInBounds_toArray, List.set_cons_zero, List.set_cons_succ]
  refine wpList_run (v := .int .i64 (h2 : Int)) rfl (exec_move rfl rfl) ?_
  simp only [Act.put, List.setIfInBounds_toArray, List.set_cons_zero, List.set_cons_succ]
  refine wpList_run (v := .int .i64 ((h2 + 1 : Nat) : Int)) rfl (ix_add rfl rfl rfl (by omega) (by omega)) ?_
  simp only [Act.put, List.setIfInBounds_toArray, List.set_cons_zero, List.set_cons_succ]
  refine wpList_run (v := .slice (fromK 2 (some ⟨b, 0, none⟩) c (h2 + 1)) (n - (h2 + 1)) (c - (h2 + 1))) rfl (exec_slice rfl rfl rfl rfl rfl (sl_from elmP _ n c (h2 + 1) (by have := HLT.out; omega) HNC.out _)) ?_
  simp only [Act.put, List.setIfInBounds_toArray, List.set_cons_zero, List.set_cons_succ]
  have hrw : Rws w2 2 (some ⟨b, 0, none⟩) n (ps.map encP) := by
    have h := HN2.out.prs.rws (by rw [List.length_map, ← HNL.out]; have := HL.out; omega) (by decide)
    exact h
  have hrf := rws_from hrw (show h2 + 1 ≤ n from HLT.out) HNC.out
  refine wpList_op rfl fun K9 HK9 => ?_
  go_wp2_with fail
  refine (CloneP (c := c - (h2 + 1)) hrf ((fitP ps).sub fun r hr => List.mem_of_mem_drop hr) (fun h => by unfold fromK at h; split at h <;> cases h) (by have := HL.out; omega)).mono ?_
  rintro e w3 ⟨v7, rfl, hrow, hto⟩
  refine HK9.out _ _ ?_
  clear HK9
  try simp only [Act.put, List.setIfInBounds_toArray, List.set_cons_zero, List.set_cons_succ]
  clear hrw hrf
  obtain ⟨A7, c7, e7, _⟩ := hrow.form
  obtain ⟨n7, hn7⟩ : ∃ n7, n7 = (List.drop (h2 + 1) (ps.map encP)).length := ⟨_, rfl⟩
  rw [← hn7] at e7
  subst e7
  refine wpList_run (v := .agg #[.slice A7 n7 c7, .slice none 0 0]) rfl (gx_build1 rfl rfl (build_node1 _ _ _ _)) ?_
  simp only [Act.put, List.setIfInBounds_toArray, List.set_cons_zero, List.set_cons_succ]
  have hbr := Blk.new w3 62 #[.slice A7 n7 c7, .slice none 0 0]
  have htr := (Turn.refl nowhere w3).alloc (.cells #[.slice A7 n7 c7, .slice none 0 0] 62)
  refine wpList_run (v := .pointer (some ⟨w3.heap.size, 0, none⟩)) (w' := w3.alloc (.cells #[.slice A7 n7 c7, .slice none 0 0] 62)) rfl (gx_box rfl rfl (box_node _ _ _ _ _ _ _)) ?_
  simp only [Act.put, List.setIfInBounds_toArray, List.set_cons_zero, List.set_cons_succ]
  obtain ⟨r, hr⟩ : ∃ r, r = w3.heap.size := ⟨_, rfl⟩
  rw [← hr] at hbr ⊢
  generalize w3.alloc (.cells #[.slice A7 n7 c7, .slice none 0 0] 62) = w4 at *
  have ht24 := hto.trans htr fun _ _ e => e
  have HGR := Lib.hid (show w2.heap.size ≤ r by have := hto.size; omega)
  have HT4 := Lib.hid (HI2.out.new (nd := ⟨ps.drop (h2 + 1), [], .slice A7 n7 c7, .slice none 0 0⟩) ht24 (show w2.heap.size ≤ r by have := hto.size; omega)
    ⟨hbr, by
      have h := (hrow.less (Nat.zero_le _)).still htr
      rw [← List.map_drop] at h
      exact h, Orw.nil _ _ _ _⟩ (fun b hb => (hrow.lt hb).1) (fun b hb => by cases hb))
  have HR2 := Lib.hid (show w.heap.size ≤ r by have := HT2.out.size; have := hto.size; omega)
  have HPR := Lib.hid (show p ≠ r from fun e => by have := HN2.out.blk.lt; have := hto.size; omega)
  clear hrow hto hn7 hbr htr hr ht24
  have HA04 := Lib.hid (HA02.out.to HT4.out)
  have HA54 := Lib.hid (HA5.out.to HT4.out)
  have HTO4 := Lib.hid ((To.still HIN.out HT2.out).trans HT4.out)
  obtain ⟨H4, hH4⟩ : ∃ H4, H4 = up H r ⟨ps.drop (h2 + 1), [], .slice A7 n7 c7, .slice none 0 0⟩ := ⟨_, rfl⟩
  have HP4 := Lib.hid (show H4 p = some ⟨ps, ks, .slice (some ⟨b, 0, none⟩) n c, .slice Ak m ck⟩ from by rw [hH4, up_other _ _ _ HPR.out]; exact HP.out)
  have HPR4 := Lib.hid (show H4 r = some ⟨ps.drop (h2 + 1), [], .slice A7 n7 c7, .slice none 0 0⟩ from by rw [hH4]; exact up_same _ _ _)
  have HS4 := Lib.hid (show Same H H4 (fun q => q = p ∨ q = r) from by rw [hH4]; exact fun q hq => up_other _ _ _ fun e => hq (.inr e))
  rw [← hH4] at HTO4 HA04 HA54
  clear hH4 HT4
  have HI4 := Lib.hid HTO4.out.in_
  have HN4 := Lib.hid (show NodeAt w4 p (.slice (some ⟨b, 0, none⟩) n c) (.slice Ak m ck) ps ks from HI4.out.at_ HP4.out)
  refine wpList_run (v := .pointer (some ⟨r, 0, none⟩)) rfl (gx_assign rfl rfl) ?_
  simp only [Act.put, List.setIfInBounds_toArray, List.set_cons_zero, List.set_cons_succ]
  go_upto_region 4 with fail
  refine wp_region_till (fun W => Blk W p 62 #[.slice (some ⟨b, 0, none⟩) n c, .slice Ak m ck]) 12 (by kernel_rfl) ?_
  have hS0 : Blk w4.drew p 62 #[.slice (some ⟨b, 0, none⟩) n c, .slice Ak m ck] := HN4.out.blk
  refine till_take (i := 0) (v := .pointer (some ⟨p, 0, none⟩)) rfl (by kernel_rfl) (by kernel_rfl) (fun _ _ _ h => h) (.inl ⟨by rfl, fun W hW => exec_move rfl rfl⟩) hS0 ?_
  simp only [Act.put, List.setIfInBounds_toArray, List.set_cons_zero, List.set_cons_succ]
  refine till_take (i := 1) (v := .pointer (some ⟨p, 0, none⟩)) rfl (by kernel_rfl) (by kernel_rfl) (fun _ _ _ h => h) (.inl ⟨by rfl, fun W hW => exec_move rfl rfl⟩) hS0 ?_
  simp only [Act.put, List.setIfInBounds_toArray, List.set_cons_zero, List.set_cons_succ]
  refine till_take (i := 2) (v := .pointer (some ⟨p, 0, none⟩)) rfl (by kernel_rfl) (by kernel_rfl) (fun _ _ _ h => h) (.inl ⟨by rfl, fun W hW => exec_nil rfl rfl⟩) hS0 ?_
  simp only [Act.put, List.setIfInBounds_toArray, List.set_cons_zero, List.set_cons_succ]
  refine till_take (i := 3) (v := .pointer (some ⟨p, 0, none⟩)) rfl (by kernel_rfl) (by kernel_rfl) (fun _ _ _ h => h) (.inl ⟨by rfl, fun W hW => exec_field (off := 0) (d := 0) rfl rfl (by kernel_rfl)⟩) hS0 ?_
  simp only [Act.put, List.setIfInBounds_toArray, List.set_cons_zero, List.set_cons_succ]
  refine till_take (i := 4) (v := .slice (some ⟨b, 0, none⟩) n c) rfl (by kernel_rfl) (by kernel_rfl) (fun _ _ _ h => h) (.inl ⟨by rfl, fun W hW => exec_load1 rfl rfl (by kernel_rfl) (hW.cell 0)⟩) hS0 ?_
  simp only [Act.put, List.setIfInBounds_toArray, List.set_cons_zero, List.set_cons_succ]
  refine till_take (i := 5) (v := .int .i64 (h2 : Int)) rfl (by kernel_rfl) (by kernel_rfl) (fun _ _ _ h => h) (.inl ⟨by rfl, fun W hW => exec_move rfl rfl⟩) hS0 ?_
  simp only [Act.put, List.setIfInBounds_toArray, List.set_cons_zero, List.set_cons_succ]
  refine till_take (i := 6) (v := .pointer (some ⟨p, 0, none⟩)) rfl (by kernel_rfl) (by kernel_rfl) (fun _ _ _ h => h) (.inl ⟨by rfl, fun W hW => exec_move rfl rfl⟩) hS0 ?_
  simp only [Act.put, List.setIfInBounds_toArray, List.set_cons_zero, List.set_cons_succ]
  refine till_take (i := 7) (v := .pointer (some ⟨p, 0, none⟩)) rfl (by kernel_rfl) (by kernel_rfl) (fun _ _ _ h => h) (.inl ⟨by rfl, fun W hW => exec_nil rfl rfl⟩) hS0 ?_
  simp only [Act.put, List.setIfInBounds_toArray, List.set_cons_zero, List.set_cons_succ]
  refine till_take (i := 8) (v := .pointer (some ⟨p, 0, none⟩)) rfl (by kernel_rfl) (by kernel_rfl) (fun _ _ _ h => h) (.inl ⟨by rfl, fun W hW => exec_field (off := 0) (d := 0) rfl rfl (by kernel_rfl)⟩) hS0 ?_
  simp only [Act.put, List.setIfInBounds_toArray, List.set_cons_zero, List.set_cons_succ]
  refine till_take (i := 9) (v := .slice (some ⟨b, 0, none⟩) n c) rfl (by kernel_rfl) (by kernel_rfl) (fun _ _ _ h => h) (.inl ⟨by rfl, fun W hW => exec_load1 rfl rfl (by kernel_rfl) (hW.cell 0)⟩) hS0 ?_
  simp only [Act.put, List.setIfInBounds_toArray, List.set_cons_zero, List.set_cons_succ]
  refine till_take (i := 10) (v := .int .i64 (n : Int)) rfl (by kernel_rfl) (by kernel_rfl) (fun _ _ _ h => h) (.inl ⟨by rfl, fun W hW => gx_len rfl rfl Try.underlying59⟩) hS0 ?_
  simp only [Act.put, List.setIfInBounds_toArray, List.set_cons_zero, List.set_cons_succ]
  have HD4 := Lib.hid ((Turn.refl nowhere w4).drew)
  refine till_step (i := 11) (by kernel_rfl) rfl rfl ?_
  intro K1 HK1
  go_wp2_with fail
  refine (DeleteP (i := h2) (j := n) (HN4.out.prs.still HD4.out) (by rw [List.length_map]; exact HNL.out.symm) (by have := HLT.out; omega) (Nat.le_refl n) (Nat.le_of_lt HL.out)).mono ?_
  rintro e w5 ⟨v', rfl, hrow, hto⟩
  have hblk5 : Blk w5 p 62 #[.slice (some ⟨b, 0, none⟩) n c, .slice Ak m ck] := HN4.out.blk.drew.turn hto.1 fun e => HN4.out.prs.ne HN4.out.blk (by decide) _ e rfl
  refine HK1.out _ _ ⟨fun _ => hblk5, ?_⟩
  clear HK1
  try simp only [Act.put, List.setIfInBounds_toArray, List.set_cons_zero, List.set_cons_succ]
  refine till_tail 12 rfl (by kernel_rfl) ?_
  refine wpList_run (v := .pointer (some ⟨p, 0, none⟩)) rfl (exec_nil rfl rfl) ?_
  simp only [Act.put, List.setIfInBounds_toArray, List.set_cons_zero, List.set_cons_succ]
  refine wpList_run (v := .pointer (some ⟨p, 0, none⟩)) rfl (exec_field (off := 0) (d := 0) rfl rfl (by kernel_rfl)) ?_
  simp only [Act.put, List.setIfInBounds_toArray, List.set_cons_zero, List.set_cons_succ]
  refine wpList_storeU 0 v' rfl 59 _ _ rfl hblk5 rfl rfl (by show 0 < 2; omega) (slice_one hrow) size_sP ?_
  intro w6 hb6 ht6
  have h56 := (HI4.out.still HD4.out).setP (ps' := ps.take h2) HP4.out hto.1 hto.2 ht6 hb6 (by
    have h := hrow
    rw [del_map, List.drop_of_length_le (by rw [← HNL.out]; exact Nat.le_refl _), List.append_nil] at h
    exact h)
  have HT6 := Lib.hid (To.trans (To.still HI4.out HD4.out) h56)
  clear hrow hto hb6 ht6 h56 hblk5 hS0
  refine wpList_nil ?_
  refine NoPanic.normal ?_
  simp only [Act.put, List.setIfInBounds_toArray, List.set_cons_zero, List.set_cons_succ]
  have HA06 := Lib.hid (HA04.out.to HT6.out)
  have HA56 := Lib.hid (HA54.out.to HT6.out)
  have HTO6 := Lib.hid (HTO4.out.trans HT6.out)
  obtain ⟨H6, hH6⟩ : ∃ H6, H6 = up H4 p ⟨ps.take h2, ks, v', .slice Ak m ck⟩ := ⟨_, rfl⟩
  have HP6 := Lib.hid (show H6 p = some ⟨ps.take h2, ks, v', .slice Ak m ck⟩ from by rw [hH6]; exact up_same _ _ _)
  have HPR6 := Lib.hid (show H6 r = some ⟨ps.drop (h2 + 1), [], .slice A7 n7 c7, .slice none 0 0⟩ from by rw [hH6, up_other _ _ _ (Ne.symm HPR.out)]; exact HPR4.out)
  have HS6 := Lib.hid (show Same H H6 (fun q => q = p ∨ q = r) from by rw [hH6]; exact HS4.out.trans (same_up _ _ _) (fun _ e => e) fun _ e => .inl e)
  rw [← hH6] at HTO6 HA06 HA56
  clear hH6 HT6
  have HI6 := Lib.hid HTO6.out.in_
  have HN6 := Lib.hid (show NodeAt w6 p v' (.slice Ak m ck) (ps.take h2) ks from HI6.out.at_ HP6.out)
  have hw := lowest_walk HN6.out
  by_cases hks : ks = []
  · subst hks
    rw [show decide (([] : List Nat) = []) = true from rfl] at hw
    have HW := Lib.hid hw
    clear hw
    go_upto_region 5 with fail
    refine wp_region_lit ?_
    refine wpList_run (v := .pointer (some ⟨p, 0, none⟩)) rfl (exec_move rfl rfl) ?_
    simp only [Act.put, List.setIfInBounds_toArray, List.set_cons_zero, List.set_cons_succ]
    refine wpList_op rfl fun K9 HK9 => ?_
    go_wp2_with fail
    refine (HW.out).mono ?_
    rintro e w7 ⟨rfl, rfl⟩
    refine HK9.out _ _ ?_
    clear HK9
    try simp only [Act.put, List.setIfInBounds_toArray, List.set_cons_zero, List.set_cons_succ]
    refine wpList_run (v := .bool false) rfl (ix_not (b := true) rfl rfl) ?_
    simp only [Act.put, List.setIfInBounds_toArray, List.set_cons_zero, List.set_cons_succ]
    go_upto_region 8 with fail
    refine wp_region_lit ?_
    refine wpList_run (v := .agg (encP x).toArray) rfl (gx_loads rfl rfl (blk_range HA56.out.1) Try.underlying65 rfl (by rw [size_pair]; rfl)) ?_
    simp only [Act.put, List.setIfInBounds_toArray, List.set_cons_zero, List.set_cons_succ]
    refine wpList_run (v := .pointer (some ⟨r, 0, none⟩)) rfl (exec_move rfl rfl) ?_
    simp only [Act.put, List.setIfInBounds_toArray, List.set_cons_zero, List.set_cons_succ]
    refine wpList_store_row rfl 65 (.tmp 2) (.tmp 73) rfl (encP x).toArray HA06.out.1 rfl rfl rfl (by rw [size_pair]; rfl) (fun v hv => encP_one x v (by simpa using hv)) ?_
    intro w9 hb9 ht9
    simp only [Act.put, List.setIfInBounds_toArray, List.set_cons_zero, List.set_cons_succ]

    have HE := Lib.hid hb9
    have HT9 := Lib.hid ht9
    clear hb9 ht9
    refine wpList_run (v := .pointer (some ⟨r, 0, none⟩)) rfl (gx_assign rfl rfl) ?_
    simp only [Act.put, List.setIfInBounds_toArray, List.set_cons_zero, List.set_cons_succ]
    go_wp2_with fail
    refine bodyPost_ret (v := .tuple #[.agg (encP x).toArray, .pointer (some ⟨r, 0, none⟩)]) (ret_cell2 rfl _ _ b0 65 _ _ rfl rfl HE.out Try.underlying65 rfl size_pair) rfl ?_
    exact ⟨r, H6, rfl, HR2.out, HTO6.out.aux HG0.out HA06.out HT9.out, ⟨_, _, HP6.out⟩, ⟨_, _, HPR6.out⟩, HS6.out⟩
  · rw [show decide (ks = []) = false from decide_eq_false hks] at hw
    have HW := Lib.hid hw
    have HM := Lib.hid (show m = n + 1 from by rw [HML.out]; rcases HK.out with e | e; exact absurd e hks; exact e)
    clear hw
    obtain ⟨bk, ck', ek, hmc, _⟩ := HN6.out.kds.some_ (by rw [List.length_map, ← HML.out]; have := HM.out; omega)
    rw [List.length_map, ← HML.out] at ek hmc
    injection ek with ek1 _ ek2
    subst ek1 ek2
    have HMC := Lib.hid hmc
    have y3 : (m : Int) ≤ (n : Int) + 1 := by have := HM.out; omega
    have y4 : (n : Int) + 1 ≤ (m : Int) := by have := HM.out; omega
    obtain ⟨h3, hh3⟩ : ∃ h3, h3 = h2 + 1 := ⟨_, rfl⟩
    have HH3 := Lib.hid hh3
    have y5 : (h3 : Int) ≤ (h2 : Int) + 1 := by omega
    have y6 : (h2 : Int) + 1 ≤ (h3 : Int) := by omega
    clear hh3
    clear hks hmc
    go_upto_region 5 with fail
    refine wp_region_lit ?_
    refine wpList_run (v := .pointer (some ⟨p, 0, none⟩)) rfl (exec_move rfl rfl) ?_
    simp only [Act.put, List.setIfInBounds_toArray, List.set_cons_zero, List.set_cons_succ]
    refine wpList_op rfl fun K9 HK9 => ?_
    go_wp2_with fail
    refine (HW.out).mono ?_
    rintro e w7 ⟨rfl, rfl⟩
    refine HK9.out _ _ ?_
    clear HK9
    try simp only [Act.put, List.setIfInBounds_toArray, List.set_cons_zero, List.set_cons_succ]
    refine wpList_run (v := .bool true) rfl (ix_not (b := false) rfl rfl) ?_
    simp only [Act.put, List.setIfInBounds_toArray, List.set_cons_zero, List.set_cons_succ]
    go_upto_region 6 with fail
    refine wp_region_lit ?_
    refine wpList_run (v := .pointer (some ⟨r, 0, none⟩)) rfl (exec_move rfl rfl) ?_
    simp only [Act.put, List.setIfInBounds_toArray, List.set_cons_zero, List.set_cons_succ]
    refine wpList_run (v := .pointer (some ⟨p, 0, none⟩)) rfl (exec_move rfl rfl) ?_
    simp only [Act.put, List.setIfInBounds_toArray, List.set_cons_zero, List.set_cons_succ]
    refine wpList_run (v := .pointer (some ⟨p, 0, none⟩)) rfl (exec_nil rfl rfl) ?_
    simp only [Act.put, List.setIfInBounds_toArray, List.set_cons_zero, List.set_cons_succ]
    refine wpList_run (v := .pointer (some ⟨p, 1, none⟩)) rfl (exec_field (off := 0) (d := 1) rfl rfl (by kernel_rfl)) ?_
    simp only [Act.put, List.setIfInBounds_toArray, List.set_cons_zero, List.set_cons_succ]
    refine wpList_run (v := .slice (some ⟨bk, 0, none⟩) m ck) rfl (exec_load1 rfl rfl (by kernel_rfl) (HN6.out.blk.cell 1)) ?_
    simp only [Act.put, List.setIfInBounds_toArray, List.set_cons_zero, List.set_cons_succ]
    refine wpList_run (v := .int .i64 (h2 : Int)) rfl (exec_move rfl rfl) ?_
    simp only [Act.put, List.setIfInBounds_toArray, List.set_cons_zero, List.set_cons_succ]
    refine wpList_run (v := .int .i64 (h3 : Int)) rfl (ix_add rfl rfl rfl (by omega) (by omega)) ?_
    simp only [Act.put, List.setIfInBounds_toArray, List.set_cons_zero, List.set_cons_succ]
    refine wpList_run (v := .slice (fromK 1 (some ⟨bk, 0, none⟩) ck h3) (m - h3) (ck - h3)) rfl (exec_slice rfl rfl rfl rfl rfl (sl_from elmK _ m ck h3 (by have := HLT.out; have := HM.out; have := HH3.out; omega) HMC.out _)) ?_
    simp only [Act.put, List.setIfInBounds_toArray, List.set_cons_zero, List.set_cons_succ]
    have hrw := HN6.out.kds.rws (by rw [List.length_map, ← HML.out]; have := HL.out; have := HM.out; omega) (by decide)
    have hrf := rws_from hrw (show h3 ≤ m from by have := HLT.out; have := HM.out; have := HH3.out; omega) HMC.out
    refine wpList_op rfl fun K9 HK9 => ?_
    go_wp2_with fail
    refine (CloneK (c := ck - h3) hrf ((fitK ks).sub fun r hr => List.mem_of_mem_drop hr) (fun h => by unfold fromK at h; split at h <;> cases h) (by have := HL.out; have := HM.out; omega)).mono ?_
    rintro e w7 ⟨v8, rfl, hrow8, hto8⟩
    refine HK9.out _ _ ?_
    clear HK9
    try simp only [Act.put, List.setIfInBounds_toArray, List.set_cons_zero, List.set_cons_succ]
    clear hrw hrf
    have hbr7 : Blk w7 r 62 #[.slice A7 n7 c7, .slice none 0 0] := (HI6.out.at_ HPR6.out).blk.turn hto8 fun e => e
    refine wpList_run (v := .pointer (some ⟨r, 0, none⟩)) rfl (exec_nil rfl rfl) ?_
    simp only [Act.put, List.setIfInBounds_toArray, List.set_cons_zero, List.set_cons_succ]
    refine wpList_run (v := .pointer (some ⟨r, 1, none⟩)) rfl (exec_field (off := 0) (d := 1) rfl rfl (by kernel_rfl)) ?_
    simp only [Act.put, List.setIfInBounds_toArray, List.set_cons_zero, List.set_cons_succ]
    refine wpList_storeU 1 v8 rfl 60 _ _ rfl hbr7 rfl rfl (by show 1 < 2; omega) (slice_one hrow8) size_sK ?_
    intro w8 hb8 ht8
    simp only [Act.put, List.setIfInBounds_toArray, List.set_cons_zero, List.set_cons_succ]
    have HT8 := Lib.hid (HI6.out.setK (ks' := ks.drop (h2 + 1)) HPR6.out (hto8.mono fun _ _ e => e.elim) (fun b hb => .inr (hrow8.lt hb).1) ht8 hb8 (by
      have h := hrow8.less (Nat.zero_le _)
      rw [← List.map_drop, HH3.out] at h
      exact h))
    clear hrow8 hto8 hbr7 hb8 ht8
    have HA08 := Lib.hid (HA06.out.to HT8.out)
    have HA58 := Lib.hid (HA56.out.to HT8.out)
    have HTO8 := Lib.hid (HTO6.out.trans HT8.out)
    obtain ⟨H8, hH8⟩ : ∃ H8, H8 = up H6 r ⟨ps.drop (h2 + 1), ks.drop (h2 + 1), .slice A7 n7 c7, v8⟩ := ⟨_, rfl⟩
    have HP8 := Lib.hid (show H8 p = some ⟨ps.take h2, ks, v', .slice (some ⟨bk, 0, none⟩) m ck⟩ from by rw [hH8, up_other _ _ _ HPR.out]; exact HP6.out)
    have HPR8 := Lib.hid (show H8 r = some ⟨ps.drop (h2 + 1), ks.drop (h2 + 1), .slice A7 n7 c7, v8⟩ from by rw [hH8]; exact up_same _ _ _)
    have HS8 := Lib.hid (show Same H H8 (fun q => q = p ∨ q = r) from by rw [hH8]; exact HS6.out.trans (same_up _ _ _) (fun _ e => e) fun _ e => .inr e)
    rw [← hH8] at HTO8 HA08 HA58
    clear hH8 HT8
    have HI8 := Lib.hid HTO8.out.in_
    have HN8 := Lib.hid (show NodeAt w8 p v' (.slice (some ⟨bk, 0, none⟩) m ck) (ps.take h2) ks from HI8.out.at_ HP8.out)
    go_upto_region 7 with fail
    refine wp_region_till (fun W => Blk W p 62 #[v', .slice (some ⟨bk, 0, none⟩) m ck]) 13 (by kernel_rfl) ?_
    have hS0 : Blk w8.drew p 62 #[v', .slice (some ⟨bk, 0, none⟩) m ck] := HN8.out.blk
    refine till_take (i := 0) (v := .pointer (some ⟨p, 0, none⟩)) rfl (by kernel_rfl) (by kernel_rfl) (fun _ _ _ h => h) (.inl ⟨by rfl, fun W hW => exec_move rfl rfl⟩) hS0 ?_
    simp only [Act.put, List.setIfInBounds_toArray, List.set_cons_zero, List.set_cons_succ]
    refine till_take (i := 1) (v := .pointer (some ⟨p, 0, none⟩)) rfl (by kernel_rfl) (by kernel_rfl) (fun _ _ _ h => h) (.inl ⟨by rfl, fun W hW => exec_move rfl rfl⟩) hS0 ?_
    simp only [Act.put, List.setIfInBounds_toArray, List.set_cons_zero, List.set_cons_succ]
    refine till_take (i := 2) (v := .pointer (some ⟨p, 0, none⟩)) rfl (by kernel_rfl) (by kernel_rfl) (fun _ _ _ h => h) (.inl ⟨by rfl, fun W hW => exec_nil rfl rfl⟩) hS0 ?_
    simp only [Act.put, List.setIfInBounds_toArray, List.set_cons_zero, List.set_cons_succ]
    refine till_take (i := 3) (v := .pointer (some ⟨p, 1, none⟩)) rfl (by kernel_rfl) (by kernel_rfl) (fun _ _ _ h => h) (.inl ⟨by rfl, fun W hW => exec_field (off := 0) (d := 1) rfl rfl (by kernel_rfl)⟩) hS0 ?_
    simp only [Act.put, List.setIfInBounds_toArray, List.set_cons_zero, List.set_cons_succ]
    refine till_take (i := 4) (v := .slice (some ⟨bk, 0, none⟩) m ck) rfl (by kernel_rfl) (by kernel_rfl) (fun _ _ _ h => h) (.inl ⟨by rfl, fun W hW => exec_load1 rfl rfl (by kernel_rfl) (hW.cell 1)⟩) hS0 ?_
    simp only [Act.put, List.setIfInBounds_toArray, List.set_cons_zero, List.set_cons_succ]
    refine till_take (i := 5) (v := .int .i64 (h2 : Int)) rfl (by kernel_rfl) (by kernel_rfl) (fun _ _ _ h => h) (.inl ⟨by rfl, fun W hW => exec_move rfl rfl⟩) hS0 ?_
    simp only [Act.put, List.setIfInBounds_toArray, List.set_cons_zero, List.set_cons_succ]
    refine till_take (i := 6) (v := .int .i64 (h3 : Int)) rfl (by kernel_rfl) (by kernel_rfl) (fun _ _ _ h => h) (.inl ⟨by rfl, fun W hW => ix_add rfl rfl rfl (by omega) (by omega)⟩) hS0 ?_
    simp only [Act.put, List.setIfInBounds_toArray, List.set_cons_zero, List.set_cons_succ]
    refine till_take (i := 7) (v := .pointer (some ⟨p, 0, none⟩)) rfl (by kernel_rfl) (by kernel_rfl) (fun _ _ _ h => h) (.inl ⟨by rfl, fun W hW => exec_move rfl rfl⟩) hS0 ?_
    simp only [Act.put, List.setIfInBounds_toArray, List.set_cons_zero, List.set_cons_succ]
    refine till_take (i := 8) (v := .pointer (some ⟨p, 0, none⟩)) rfl (by kernel_rfl) (by kernel_rfl) (fun _ _ _ h => h) (.inl ⟨by rfl, fun W hW => exec_nil rfl rfl⟩) hS0 ?_
    simp only [Act.put, List.setIfInBounds_toArray, List.set_cons_zero, List.set_cons_succ]
    refine till_take (i := 9) (v := .pointer (some ⟨p, 1, none⟩)) rfl (by kernel_rfl) (by kernel_rfl) (fun _ _ _ h => h) (.inl ⟨by rfl, fun W hW => exec_field (off := 0) (d := 1) rfl rfl (by kernel_rfl)⟩) hS0 ?_
    simp only [Act.put, List.setIfInBounds_toArray, List.set_cons_zero, List.set_cons_succ]
    refine till_take (i := 10) (v := .slice (some ⟨bk, 0, none⟩) m ck) rfl (by kernel_rfl) (by kernel_rfl) (fun _ _ _ h => h) (.inl ⟨by rfl, fun W hW => exec_load1 rfl rfl (by kernel_rfl) (hW.cell 1)⟩) hS0 ?_
    simp only [Act.put, List.setIfInBounds_toArray, List.set_cons_zero, List.set_cons_succ]
    refine till_take (i := 11) (v := .int .i64 (m : Int)) rfl (by kernel_rfl) (by kernel_rfl) (fun _ _ _ h => h) (.inl ⟨by rfl, fun W hW => gx_len rfl rfl Try.underlying60⟩) hS0 ?_
    simp only [Act.put, List.setIfInBounds_toArray, List.set_cons_zero, List.set_cons_succ]
    have HD8 := Lib.hid ((Turn.refl nowhere w8).drew)
    refine till_step (i := 12) (by kernel_rfl) rfl rfl ?_
    intro K1 HK1
    go_wp2_with fail
    refine (DeleteK (i := h3) (j := m) (HN8.out.kds.still HD8.out) (by rw [List.length_map]; exact HML.out.symm) (by have := HLT.out; have := HM.out; have := HH3.out; omega) (Nat.le_refl m) (by have := HL.out; have := HM.out; omega)).mono ?_
    rintro e w10 ⟨v9, rfl, hrow, hto⟩
    have hblk9 : Blk w10 p 62 #[v', .slice (some ⟨bk, 0, none⟩) m ck] := HN8.out.blk.drew.turn hto.1 fun e => HN8.out.kds.ne HN8.out.blk (by decide) _ e rfl
    refine HK1.out _ _ ⟨fun _ => hblk9, ?_⟩
    clear HK1
    try simp only [Act.put, List.setIfInBounds_toArray, List.set_cons_zero, List.set_cons_succ]
    refine till_tail 13 rfl (by kernel_rfl) ?_
    refine wpList_run (v := .pointer (some ⟨p, 0, none⟩)) rfl (exec_nil rfl rfl) ?_
    simp only [Act.put, List.setIfInBounds_toArray, List.set_cons_zero, List.set_cons_succ]
    refine wpList_run (v := .pointer (some ⟨p, 1, none⟩)) rfl (exec_field (off := 0) (d := 1) rfl rfl (by kernel_rfl)) ?_
    simp only [Act.put, List.setIfInBounds_toArray, List.set_cons_zero, List.set_cons_succ]
    refine wpList_storeU 1 v9 rfl 60 _ _ rfl hblk9 rfl rfl (by show 1 < 2; omega) (slice_one hrow) size_sK ?_
    intro w11 hb11 ht11
    have h56 := (HI8.out.still HD8.out).setK (ks' := ks.take (h2 + 1)) HP8.out hto.1 hto.2 ht11 hb11 (by
      have h := hrow
      rw [del_map, HH3.out, List.drop_of_length_le (by rw [← HML.out]; exact Nat.le_refl _), List.append_nil] at h
      exact h)
    have HT11 := Lib.hid (To.trans (To.still HI8.out HD8.out) h56)
    clear hrow hto hb11 ht11 h56 hblk9 hS0
    refine wpList_nil ?_
    refine NoPanic.normal ?_
    simp only [Act.put, List.setIfInBounds_toArray, List.set_cons_zero, List.set_cons_succ]
    have HA011 := Lib.hid (HA08.out.to HT11.out)
    have HA511 := Lib.hid (HA58.out.to HT11.out)
    have HTO11 := Lib.hid (HTO8.out.trans HT11.out)
    obtain ⟨H11, hH11⟩ : ∃ H11, H11 = up H8 p ⟨ps.take h2, ks.take (h2 + 1), v', v9⟩ := ⟨_, rfl⟩
    have HP11 := Lib.hid (show H11 p = some ⟨ps.take h2, ks.take (h2 + 1), v', v9⟩ from by rw [hH11]; exact up_same _ _ _)
    have HPR11 := Lib.hid (show H11 r = some ⟨ps.drop (h2 + 1), ks.drop (h2 + 1), .slice A7 n7 c7, v8⟩ from by rw [hH11, up_other _ _ _ (Ne.symm HPR.out)]; exact HPR8.out)
    have HS11 := Lib.hid (show Same H H11 (fun q => q = p ∨ q = r) from by rw [hH11]; exact HS8.out.trans (same_up _ _ _) (fun _ e => e) fun _ e => .inl e)
    rw [← hH11] at HTO11 HA011 HA511
    clear hH11 HT11
    go_upto_region 8 with fail
    refine wp_region_lit ?_
    refine wpList_run (v := .agg (encP x).toArray) rfl (gx_loads rfl rfl (blk_range HA511.out.1) Try.underlying65 rfl (by rw [size_pair]; rfl)) ?_
    simp only [Act.put, List.setIfInBounds_toArray, List.set_cons_zero, List.set_cons_succ]
    refine wpList_run (v := .pointer (some ⟨r, 0, none⟩)) rfl (exec_move rfl rfl) ?_
    simp only [Act.put, List.setIfInBounds_toArray, List.set_cons_zero, List.set_cons_succ]
    refine wpList_store_row rfl 65 (.tmp 2) (.tmp 73) rfl (encP x).toArray HA011.out.1 rfl rfl rfl (by rw [size_pair]; rfl) (fun v hv => encP_one x v (by simpa using hv)) ?_
    intro w9 hb9 ht9
    simp only [Act.put, List.setIfInBounds_toArray, List.set_cons_zero, List.set_cons_succ]

    have HE := Lib.hid hb9
    have HT9 := Lib.hid ht9
    clear hb9 ht9
    refine wpList_run (v := .pointer (some ⟨r, 0, none⟩)) rfl (gx_assign rfl rfl) ?_
    simp only [Act.put, List.setIfInBounds_toArray, List.set_cons_zero, List.set_cons_succ]
    go_wp2_with fail
    refine bodyPost_ret (v := .tuple #[.agg (encP x).toArray, .pointer (some ⟨r, 0, none⟩)]) (ret_cell2 rfl _ _ b0 65 _ _ rfl rfl HE.out Try.underlying65 rfl size_pair) rfl ?_
    exact ⟨r, H11, rfl, HR2.out, HTO11.out.aux HG0.out HA011.out HT9.out, ⟨_, _, HP11.out⟩, ⟨_, _, HPR11.out⟩, HS11.out⟩
end Go.Proofs.Ytmlkdkbpbleilaa
