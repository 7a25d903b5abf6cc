/-
  Texts in one file: SsZ. Conditions: the tables and the errors read as the program's text lays them.
-/
import Derived.Test.YtfnillibngijaaaGreatDoorJB34
namespace Go.Proofs.YtfnillibngijaaaGreatDoor
open Go.RowKit Go.ChangeShapes Go.WideShapes Go.Deep
set_option linter.unusedVariables false
set_option linter.unusedSimpArgs false
set_option maxRecDepth 20000
/-- a call of a board that came in -/
structure OpS where
  kind : Int
  member : Int
  on : Bool
def OpS.cells (o : OpS) : List Value := [.int .i64 o.kind, .int .i64 o.member, .bool o.on]
theorem OpS.one (o : OpS) : ∀ v ∈ o.cells, v.oneCell' = true := fun v hv => by
  unfold OpS.cells at hv
  simp only [List.mem_cons, List.not_mem_nil, or_false] at hv
  rcases hv with rfl | rfl | rfl <;> rfl
def Op13 (w : World) (A : Option Addr) (n : Nat) (os : List OpS) : Prop := Rws w 3 A n (os.map OpS.cells) ∧ ∀ o ∈ os, -9223372036854775808 ≤ o.kind ∧ o.kind ≤ 9223372036854775807
theorem Op13.still {w w' : World} {A : Option Addr} {n : Nat} {os : List OpS} (h : Op13 w A n os) (ht : Turn nowhere w w') : Op13 w' A n os := ⟨h.1.still ht, h.2⟩
theorem Op13.len {w : World} {A : Option Addr} {n : Nat} {os : List OpS} (h : Op13 w A n os) : n = os.length := by
  have := h.1.1
  rw [List.length_map] at this
  omega
theorem size_op13 : (Tryz.prog.info? 34).map (·.size) = some 3 := by kernel_rfl
theorem zero_op13 (w : World) : (zeroValue 34).run Tryz.prog w = .ok (.agg #[.int .i64 0, .int .i64 0, .bool false]) w := by kernel_rfl
section
variable {H : Type} {enc : TypeId × Value → H} {w : World} {base : Nat} {spare : Nat → Bool} {held : Bool}
set_option maxRecDepth 20000 in
theorem ops_of13 {fuel : Nat} {v : Value} {x : DataW H × List MemPlace} (h : DataW.trod enc Tryz.prog w base spare held fuel 22 [v] = some x) (hw : ∀ q ∈ x.1.weights Tryz.prog 22, q ≤ reachBytes) :
    ∃ (A : Option Addr) (n c : Nat) (os : List OpS), v = .slice A n c ∧ Op13 w A n os := by
  obtain ⟨A, n, c, os, h1, h2, h3, h4, h5, h6, _⟩ := open_rwsW (by_ := 24) Tryz.underlying22 (k := 3) (by kernel_rfl) (by decide) (by kernel_rfl) (by decide) OpS.cells (fun o : OpS => -9223372036854775808 ≤ o.kind ∧ o.kind ≤ 9223372036854775807) ⟨0, 0, false⟩ (fun _ => rfl) (fun n cs y hy hwy => by
    obtain ⟨hl, m, hf⟩ := open_fldsW Tryz.underlying34 (by kernel_rfl) (by kernel_rfl) hy
    obtain ⟨c0, z0, e0, t0, _⟩ := hf 0 _ rfl
    obtain ⟨c1, z1, e1, t1, _⟩ := hf 1 _ rfl
    obtain ⟨c2, z2, e2, t2, _⟩ := hf 2 _ rfl
    obtain ⟨k, g0, _, w0⟩ := DataW.trod_int Tryz.underlying3 t0
    obtain ⟨m1, g1, _, _⟩ := DataW.trod_int Tryz.underlying3 t1
    obtain ⟨b, g2, _⟩ := DataW.trod_bool Tryz.underlying4 t2
    injection g0 with g0
    injection g1 with g1
    injection g2 with g2
    subst g0 g1 g2
    refine ⟨⟨k, m1, b⟩, ?_, i64_in w0⟩
    have hl2 : cs.length = 3 := hl
    match cs, hl2 with
    | [a, b, c], _ =>
      cases e0
      cases e1
      cases e2
      rfl) h hw
  exact ⟨A, n, c, os, h1, h2, h6⟩
end
theorem Rws.el {w : World} {k n b off : Nat} {rs : List (List Value)} (h : Rws w k (some ⟨b, off, none⟩) n rs) {i : Nat} {r : List Value} (hr : rs[i]? = some r) : w.rangeAt b (off + i * k) r := fun j u hu => by
  obtain ⟨b', off', e, hc⟩ := h.at_ hr
  injection e with e
  injection e with e1 e2 e3
  subst e1 e2
  exact hc j u hu
theorem ptr_nil13 {a : Act} {o : Oper} {W : World} {x y : Operand} {t u : TypeId} (ho : o.op = .binOp .eql t x y u) (hx : a.eval x = .pointer none) (hy : a.eval y = .pointer none) (ht : t = 28) : (execOp a.eval o).run Tryz.prog W = .ok (.value (.bool true)) W := by
  subst ht
  unfold execOp
  simp only [ho, hx, hy]
  go_simp
theorem ptr_some13 {a : Act} {o : Oper} {W : World} {x y : Operand} {t u : TypeId} {p : Addr} (ho : o.op = .binOp .eql t x y u) (hx : a.eval x = .pointer (some p)) (hy : a.eval y = .pointer none) (ht : t = 28) : (execOp a.eval o).run Tryz.prog W = .ok (.value (.bool false)) W := by
  subst ht
  unfold execOp
  simp only [ho, hx, hy]
  go_simp
theorem ix_neg13 {a : Act} {o : Oper} {W : World} {x : Operand} {i r : Int} (ho : o.op = .unOp .neg 3 x) (hx : a.eval x = .int .i64 i) (h : -i = r) (hb : -9223372036854775808 ≤ r ∧ r ≤ 9223372036854775807) : (execOp a.eval o).run Tryz.prog W = .ok (.value (.int .i64 r)) W := by
  subst h
  have hw : IntKind.i64.wrap (-i) = -i := by rw [IntKind.wrap_i64]; omega
  unfold execOp
  simp only [ho, hx]
  go_simp
  try exact hw
theorem New_no (w : World) {m : Int} (h : ¬ okN m) (hm : -9223372036854775808 ≤ m ∧ m ≤ 9223372036854775807) : Calls Tryz.prog 5 #[.int .i64 m] w fun e w' => e = .returned (.tuple #[.pointer none, .int .i64 130]) ∧ Turn nowhere w w' := by
  refine (New_walk w m hm).mono ?_
  rintro e w' (⟨h1, _⟩ | ⟨_, h2⟩)
  · exact absurd h1 h
  · exact h2
theorem rNew_no (w : World) {m : Int} (h : ¬ okN m) : Calls Tryz.prog 6 #[.int .i64 m] w fun e w' => e = .returned (.tuple #[.pointer none, .int .i64 130]) ∧ Turn nowhere w w' := by
  refine (rNew_walk w m).mono ?_
  rintro e w' (⟨n, y, s, b, rfl, _, h2, _⟩ | ⟨_, h2⟩)
  · exact absurd (show okN (n : Int) from ⟨by have := h2.lo; omega, by have := h2.hi; omega⟩) h
  · exact h2
theorem rNew_ok (w : World) {n : Nat} (h : okN (n : Int)) : Calls Tryz.prog 6 #[.int .i64 (n : Int)] w fun e w' => ∃ y s b : Nat, e = .returned (.tuple #[.pointer (some ⟨y, 0, none⟩), .int .i64 0]) ∧ RBd w' y s b n none12 ∧ w.heap.size ≤ y ∧ w.heap.size ≤ s ∧ w.heap.size ≤ b ∧ Turn nowhere w w' := by
  refine (rNew_walk w n).mono ?_
  rintro e w' (⟨k, y, s, b, hk, h1⟩ | ⟨h1, _⟩)
  · obtain rfl : n = k := by omega
    exact ⟨y, s, b, h1⟩
  · exact absurd h h1
theorem F4.first {w0 w1 w2 w3 w4 : World} {n0 n px pz y s b yz sz bz : Nat} {l : List Bool} (h0 : n0 ≤ w0.heap.size) (hx : Bd w1 px n l) (h1 : w0.heap.size ≤ px) (t1 : Turn nowhere w0 w1) (hy : RBd w2 y s b n l) (y1 : w1.heap.size ≤ y) (y2 : w1.heap.size ≤ s) (y3 : w1.heap.size ≤ b) (t2 : Turn nowhere w1 w2)
    (hz : Bd w3 pz n l) (z1 : w2.heap.size ≤ pz) (t3 : Turn nowhere w2 w3) (hu : RBd w4 yz sz bz n l) (u1 : w3.heap.size ≤ yz) (u2 : w3.heap.size ≤ sz) (u3 : w3.heap.size ≤ bz) (t4 : Turn nowhere w3 w4) : F4 w4 n0 n px pz y s b yz sz bz l l l := by
  have l1 := hx.blk.lt
  have l2 := hz.blk.lt
  obtain ⟨l3, l4, l5, m1, m2, m3⟩ := hy.lts
  obtain ⟨-, -, -, m4, m5, m6⟩ := hu.lts
  have k1 := t1.size
  have k2 := t2.size
  have k3 := t3.size
  have t34 := t3.trans t4 fun _ _ e => e
  refine ⟨hx.still (t2.trans t34 fun _ _ e => e), hz.still t4, hy.still t34, hu, ?_, ?_⟩
  · simp only [List.nodup_cons, List.mem_cons, List.not_mem_nil, or_false, not_or, not_false_eq_true, List.nodup_nil, and_true]
    exact ⟨⟨by omega, by omega, by omega, by omega, by omega, by omega, by omega⟩, ⟨by omega, by omega, by omega, by omega, by omega, by omega⟩, ⟨m1, m2, by omega, by omega, by omega⟩, ⟨m3, by omega, by omega, by omega⟩, ⟨by omega, by omega, by omega⟩, ⟨m4, m5⟩, m6⟩
  · intro g hg
    simp only [List.mem_cons, List.not_mem_nil, or_false] at hg
    rcases hg with rfl | rfl | rfl | rfl | rfl | rfl | rfl | rfl <;> omega
/-- a store into a row of bools, cell by cell -/
theorem set_cells {cur : Array Value} {i : Nat} {on : Bool} (hi : i < cur.size) (j : Nat) : (cur.setIfInBounds (0 + i * 1) (.bool on))[j]? = if i * 1 ≤ j ∧ j < i * 1 + 1 then [Value.bool on][j - i * 1]? else cur[j]? := by
  rw [show 0 + i * 1 = i from by omega, show i * 1 = i from by omega, Array.getElem?_setIfInBounds]
  by_cases h : i = j
  · subst h
    rw [if_pos rfl, if_pos hi, if_pos (by omega), Nat.sub_self]
    rfl
  · rw [if_neg h, if_neg (by omega)]
theorem above13 {w0 w w' : World} {g : Nat} (h : Turn nowhere w0 w) (hg : w0.heap.size ≤ g) (ht : Turn (only g) w w') : Turn nowhere w0 w' := h.trans ht (fun k hk e => by
  have e : k = g := e
  omega)
set_option maxRecDepth 20000 in
set_option maxHeartbeats 4000000 in
theorem boards_walk {sn : Sents} {w : World} {m : Int} {A : Option Addr} {n c : Nat} {os : List OpS} (he : Env sn w) (hk : KT w) (hm : -9223372036854775808 ≤ m ∧ m ≤ 9223372036854775807) (ho : Op13 w A n os) : Calls Tryz.prog 3 #[.int .i64 m, .slice A n c] w fun e w' => e = .returned (.bool true) ∧ Turn nowhere w w' := by
  have HE := Lib.hid he
  have HK := Lib.hid hk
  have HM := Lib.hid hm
  have HO := Lib.hid ho
  have HON := Lib.hid ho.len
  have y0 : (n : Int) ≤ 140737488355328 := by have := ho.1.2.2.1; omega
  clear he hk hm ho
  go_enter Tryz.func3, Tryz.ntmps3
  go_upto_region 0 with fail
  refine wp_region_lit ?_
  refine wpList_run (v := .bool false) (wanted_none rfl) (gx_assign rfl rfl) ?_
  simp only [Act.put, List.setIfInBounds_toArray, List.set_cons_zero, List.set_cons_succ]
  go_upto_region 1 with fail
  refine wp_region_lit ?_
  refine wpList_op rfl fun K9 HK9 => ?_
  go_wp2_with fail
  refine (sshown_walk w HE.out HK.out).mono ?_
  rintro e w1 ⟨rfl, ht⟩
  refine HK9.out _ _ ?_
  clear HK9
  try simp only [Act.put, List.setIfInBounds_toArray, List.set_cons_zero, List.set_cons_succ]
  have HT1 := Lib.hid ht
  clear ht
  refine wpList_run (v := .bool true) (wanted_none rfl) (gx_assign rfl rfl) ?_
  simp only [Act.put, List.setIfInBounds_toArray, List.set_cons_zero, List.set_cons_succ]
  by_cases hok : okN m
  · obtain ⟨N, rfl⟩ : ∃ N : Nat, m = (N : Int) := ⟨m.toNat, by have := hok.1; omega⟩
    have HOK := Lib.hid hok
    clear hok
    go_upto_region 2 with fail
    refine wp_region_lit ?_
    refine wpList_run (v := .int .i64 (N : Int)) (wanted_none rfl) (exec_move rfl rfl) ?_
    simp only [Act.put, List.setIfInBounds_toArray, List.set_cons_zero, List.set_cons_succ]
    refine wpList_op rfl fun K9 HK9 => ?_
    go_wp2_with fail
    refine (New_ok w1 HOK.out).mono ?_
    rintro e w2 ⟨px, rfl, hb, hp, ht⟩
    refine HK9.out _ _ ?_
    clear HK9
    try simp only [Act.put, List.setIfInBounds_toArray, List.set_cons_zero, List.set_cons_succ]
    have HX := Lib.hid hb
    have HX1 := Lib.hid hp
    have HT2 := Lib.hid ht
    clear ht hb hp
    refine wpList_run (v := .tuple #[.pointer (some ⟨px, 0, none⟩), .int .i64 0]) (wanted_none rfl) (exec_move rfl rfl) ?_
    simp only [Act.put, List.setIfInBounds_toArray, List.set_cons_zero, List.set_cons_succ]
    refine wpList_run (v := .pointer (some ⟨px, 0, none⟩)) (wanted_none rfl) (ix_extract rfl rfl rfl) ?_
    simp only [Act.put, List.setIfInBounds_toArray, List.set_cons_zero, List.set_cons_succ]
    refine wpList_run (v := .int .i64 0) (wanted_none rfl) (ix_extract rfl rfl rfl) ?_
    simp only [Act.put, List.setIfInBounds_toArray, List.set_cons_zero, List.set_cons_succ]
    refine wpList_run (v := .pointer (some ⟨px, 0, none⟩)) (wanted_none rfl) (gx_assign rfl rfl) ?_
    simp only [Act.put, List.setIfInBounds_toArray, List.set_cons_zero, List.set_cons_succ]
    refine wpList_run (v := .int .i64 0) (wanted_none rfl) (gx_assign rfl rfl) ?_
    simp only [Act.put, List.setIfInBounds_toArray, List.set_cons_zero, List.set_cons_succ]
    go_upto_region 3 with fail
    refine wp_region_lit ?_
    refine wpList_run (v := .int .i64 (N : Int)) (wanted_none rfl) (exec_move rfl rfl) ?_
    simp only [Act.put, List.setIfInBounds_toArray, List.set_cons_zero, List.set_cons_succ]
    refine wpList_op rfl fun K9 HK9 => ?_
    go_wp2_with fail
    refine (rNew_ok w2 HOK.out).mono ?_
    rintro e w3 ⟨y, s, b, rfl, hy, y1, y2, y3, ht⟩
    refine HK9.out _ _ ?_
    clear HK9
    try simp only [Act.put, List.setIfInBounds_toArray, List.set_cons_zero, List.set_cons_succ]
    have HY := Lib.hid hy
    have HY1 := Lib.hid y1
    have HY2 := Lib.hid y2
    have HY3 := Lib.hid y3
    have HT3 := Lib.hid ht
    clear ht hy y1 y2 y3
    refine wpList_run (v := .tuple #[.pointer (some ⟨y, 0, none⟩), .int .i64 0]) (wanted_none rfl) (exec_move rfl rfl) ?_
    simp only [Act.put, List.setIfInBounds_toArray, List.set_cons_zero, List.set_cons_succ]
    refine wpList_run (v := .pointer (some ⟨y, 0, none⟩)) (wanted_none rfl) (ix_extract rfl rfl rfl) ?_
    simp only [Act.put, List.setIfInBounds_toArray, List.set_cons_zero, List.set_cons_succ]
    refine wpList_run (v := .int .i64 0) (wanted_none rfl) (ix_extract rfl rfl rfl) ?_
    simp only [Act.put, List.setIfInBounds_toArray, List.set_cons_zero, List.set_cons_succ]
    refine wpList_run (v := .pointer (some ⟨y, 0, none⟩)) (wanted_none rfl) (gx_assign rfl rfl) ?_
    simp only [Act.put, List.setIfInBounds_toArray, List.set_cons_zero, List.set_cons_succ]
    refine wpList_run (v := .int .i64 0) (wanted_none rfl) (gx_assign rfl rfl) ?_
    simp only [Act.put, List.setIfInBounds_toArray, List.set_cons_zero, List.set_cons_succ]
    go_upto_region 4 with fail
    refine wp_region_lit ?_
    refine wpList_run (v := .bool true) (wanted_none rfl) (exec_move rfl rfl) ?_
    simp only [Act.put, List.setIfInBounds_toArray, List.set_cons_zero, List.set_cons_succ]
    refine wpList_run (v := .bool false) (wanted_none rfl) (ix_not (b := true) rfl rfl) ?_
    simp only [Act.put, List.setIfInBounds_toArray, List.set_cons_zero, List.set_cons_succ]
    refine wpList_run (v := .bool false) (wanted_none rfl) (exec_move rfl rfl) ?_
    simp only [Act.put, List.setIfInBounds_toArray, List.set_cons_zero, List.set_cons_succ]
    refine wpList_run (v := .int .i64 0) rfl (exec_move rfl rfl) ?_
    simp only [Act.put, List.setIfInBounds_toArray, List.set_cons_zero, List.set_cons_succ]
    refine wpList_run (v := .int .i64 0) rfl (exec_move rfl rfl) ?_
    simp only [Act.put, List.setIfInBounds_toArray, List.set_cons_zero, List.set_cons_succ]
    refine wpList_run (v := .bool false) rfl (ix_neq rfl rfl rfl (by decide)) ?_
    simp only [Act.put, List.setIfInBounds_toArray, List.set_cons_zero, List.set_cons_succ]
    refine wpList_run (v := .bool false) (wanted_none rfl) (ix_pickF rfl rfl rfl) ?_
    simp only [Act.put, List.setIfInBounds_toArray, List.set_cons_zero, List.set_cons_succ]
    refine wpList_run (v := .bool false) (wanted_none rfl) (exec_move rfl rfl) ?_
    simp only [Act.put, List.setIfInBounds_toArray, List.set_cons_zero, List.set_cons_succ]
    refine wpList_run (v := .pointer (some ⟨px, 0, none⟩)) rfl (exec_move rfl rfl) ?_
    simp only [Act.put, List.setIfInBounds_toArray, List.set_cons_zero, List.set_cons_succ]
    refine wpList_run (v := .bool false) rfl (ptr_someB rfl rfl rfl rfl) ?_
    simp only [Act.put, List.setIfInBounds_toArray, List.set_cons_zero, List.set_cons_succ]
    refine wpList_run (v := .pointer (some ⟨y, 0, none⟩)) rfl (exec_move rfl rfl) ?_
    simp only [Act.put, List.setIfInBounds_toArray, List.set_cons_zero, List.set_cons_succ]
    refine wpList_run (v := .bool false) rfl (ptr_some13 rfl rfl rfl rfl) ?_
    simp only [Act.put, List.setIfInBounds_toArray, List.set_cons_zero, List.set_cons_succ]
    refine wpList_run (v := .bool false) rfl (neb_same rfl rfl rfl rfl) ?_
    simp only [Act.put, List.setIfInBounds_toArray, List.set_cons_zero, List.set_cons_succ]
    refine wpList_run (v := .bool false) (wanted_none rfl) (ix_pickF rfl rfl rfl) ?_
    simp only [Act.put, List.setIfInBounds_toArray, List.set_cons_zero, List.set_cons_succ]
    go_upto_region 6 with fail
    refine wp_region_lit ?_
    refine wpList_run (v := .pointer (some ⟨y, 0, none⟩)) (wanted_none rfl) (exec_move rfl rfl) ?_
    simp only [Act.put, List.setIfInBounds_toArray, List.set_cons_zero, List.set_cons_succ]
    refine wpList_run (v := .bool false) (wanted_none rfl) (ptr_some13 rfl rfl rfl rfl) ?_
    simp only [Act.put, List.setIfInBounds_toArray, List.set_cons_zero, List.set_cons_succ]
    go_upto_region 8 with fail
    refine wp_region_lit ?_
    refine wpList_run (v := .pointer (some ⟨px, 0, none⟩)) (wanted_none rfl) (exec_move rfl rfl) ?_
    simp only [Act.put, List.setIfInBounds_toArray, List.set_cons_zero, List.set_cons_succ]
    refine wpList_op rfl fun K9 HK9 => ?_
    go_wp2_with fail
    refine (Clone_walk (HX.out.still HT3.out)).mono ?_
    rintro e w4 ⟨pz, rfl, hb, hp, ht⟩
    refine HK9.out _ _ ?_
    clear HK9
    try simp only [Act.put, List.setIfInBounds_toArray, List.set_cons_zero, List.set_cons_succ]
    have HZ := Lib.hid hb
    have HZ1 := Lib.hid hp
    have HT4 := Lib.hid ht
    clear ht hb hp
    refine wpList_run (v := .pointer (some ⟨pz, 0, none⟩)) (wanted_none rfl) (gx_assign rfl rfl) ?_
    simp only [Act.put, List.setIfInBounds_toArray, List.set_cons_zero, List.set_cons_succ]
    go_upto_region 9 with fail
    refine wp_region_lit ?_
    refine wpList_run (v := .pointer (some ⟨y, 0, none⟩)) (wanted_none rfl) (exec_move rfl rfl) ?_
    simp only [Act.put, List.setIfInBounds_toArray, List.set_cons_zero, List.set_cons_succ]
    refine wpList_op rfl fun K9 HK9 => ?_
    go_wp2_with fail
    refine (rClone_walk (HY.out.still HT4.out)).mono ?_
    rintro e w5 ⟨yz, sz, bz, rfl, hu, u1, u2, u3, ht⟩
    refine HK9.out _ _ ?_
    clear HK9
    try simp only [Act.put, List.setIfInBounds_toArray, List.set_cons_zero, List.set_cons_succ]
    have H4 := Lib.hid (F4.first HT1.out.size HX.out HX1.out HT2.out HY.out HY1.out HY2.out HY3.out HT3.out HZ.out HZ1.out HT4.out hu u1 u2 u3 ht)
    have HT5 := Lib.hid ((((HT1.out.trans HT2.out fun _ _ e => e).trans HT3.out fun _ _ e => e).trans HT4.out fun _ _ e => e).trans ht fun _ _ e => e)
    clear ht hu u1 u2 u3 HX HX1 HY HY1 HY2 HY3 HZ HZ1 HT2 HT3 HT4 HT1
    refine wpList_run (v := .pointer (some ⟨yz, 0, none⟩)) (wanted_none rfl) (gx_assign rfl rfl) ?_
    simp only [Act.put, List.setIfInBounds_toArray, List.set_cons_zero, List.set_cons_succ]
    go_upto_region 10 with fail
    refine wp_region_lit ?_
    refine wpList_run (v := .pointer (some ⟨pz, 0, none⟩)) (wanted_none rfl) (exec_move rfl rfl) ?_
    simp only [Act.put, List.setIfInBounds_toArray, List.set_cons_zero, List.set_cons_succ]
    refine wpList_run (v := .bool false) (wanted_none rfl) (ptr_someB rfl rfl rfl rfl) ?_
    simp only [Act.put, List.setIfInBounds_toArray, List.set_cons_zero, List.set_cons_succ]
    go_upto_region 12 with fail
    refine wp_region_lit ?_
    refine wpList_run (v := .int .i64 0) (wanted_none rfl) (gx_assign rfl rfl) ?_
    simp only [Act.put, List.setIfInBounds_toArray, List.set_cons_zero, List.set_cons_succ]
    go_wp2_with fail
    go_loopg [6, 8, 10, 11, 12] n (fun gk xv yv zv uv iv wr => ∃ (i px pz y s b yz sz bz : Nat) (l lz : List Bool), iv = .int .i64 (i : Int) ∧ xv = .pointer (some ⟨px, 0, none⟩) ∧ yv = .pointer (some ⟨y, 0, none⟩) ∧ zv = .pointer (some ⟨pz, 0, none⟩) ∧ uv = .pointer (some ⟨yz, 0, none⟩) ∧ i + gk = n ∧ F4 wr w.heap.size N px pz y s b yz sz bz l l lz ∧ Turn nowhere w wr)
    case atStart => exact ⟨0, px, pz, y, s, b, yz, sz, bz, none12, none12, rfl, rfl, rfl, rfl, rfl, by omega, H4.out, HT5.out⟩
    clear H4 HT5
    obtain ⟨i, px, pz, y, s, b, yz, sz, bz, l, lz, rfl, rfl, rfl, rfl, rfl, hgk, h4, htr⟩ := hrel
    have HGK := Lib.hid hgk
    have H4 := Lib.hid h4
    have HTR := Lib.hid htr
    have yi : (i : Int) ≤ (n : Int) := by omega
    clear hgk h4 htr
    by_cases hlt : i < n
    · by_cases h100 : i < 100
      · have HLT := Lib.hid hlt
        have y3 : (i : Int) < (n : Int) := by omega
        have y4 : (i : Int) < 100 := by omega
        have HO1 := Lib.hid (HO.out.still HTR.out)
        obtain ⟨o, ho⟩ : ∃ o, os[i]? = some o := ⟨_, List.getElem?_eq_getElem (show i < os.length from by have := HON.out; omega)⟩
        obtain ⟨b2, o2, e2, _⟩ := HO1.out.1.2.2.2 (by omega)
        subst e2
        have HRG := Lib.hid (Rws.el HO1.out.1 (i := i) (r := o.cells) (by rw [List.getElem?_map, ho]; rfl))
        have HKK := Lib.hid (HO1.out.2 o (List.mem_of_getElem? ho))
        clear ho hlt h100 HO1
        go_upto_region 13 with fail
        refine wp_region_lit ?_
        refine wpList_run (v := .int .i64 (i : Int)) (wanted_none rfl) (exec_move rfl rfl) ?_
        simp only [Act.put, List.setIfInBounds_toArray, List.set_cons_zero, List.set_cons_succ]
        refine wpList_run (v := .slice (some ⟨b2, o2, none⟩) n c) (wanted_none rfl) (exec_move rfl rfl) ?_
        simp only [Act.put, List.setIfInBounds_toArray, List.set_cons_zero, List.set_cons_succ]
        refine wpList_run (v := .int .i64 (n : Int)) (wanted_none rfl) (gx_len rfl rfl Tryz.underlying22) ?_
        simp only [Act.put, List.setIfInBounds_toArray, List.set_cons_zero, List.set_cons_succ]
        refine wpList_run (v := .bool true) (wanted_none rfl) (ix_lss rfl rfl rfl (decide_eq_true y3)) ?_
        simp only [Act.put, List.setIfInBounds_toArray, List.set_cons_zero, List.set_cons_succ]
        refine wpList_run (v := .bool true) (wanted_none rfl) (exec_move rfl rfl) ?_
        simp only [Act.put, List.setIfInBounds_toArray, List.set_cons_zero, List.set_cons_succ]
        refine wpList_run (v := .int .i64 (i : Int)) rfl (exec_move rfl rfl) ?_
        simp only [Act.put, List.setIfInBounds_toArray, List.set_cons_zero, List.set_cons_succ]
        refine wpList_run (v := .bool true) rfl (ix_lss rfl rfl rfl (decide_eq_true y4)) ?_
        simp only [Act.put, List.setIfInBounds_toArray, List.set_cons_zero, List.set_cons_succ]
        refine wpList_run (v := .bool true) (wanted_none rfl) (ix_pickT rfl rfl rfl) ?_
        simp only [Act.put, List.setIfInBounds_toArray, List.set_cons_zero, List.set_cons_succ]
        go_upto_region 15 with fail
        refine wp_region_lit ?_
        refine wpList_run (v := .slice (some ⟨b2, o2, none⟩) n c) (wanted_none rfl) (exec_move rfl rfl) ?_
        simp only [Act.put, List.setIfInBounds_toArray, List.set_cons_zero, List.set_cons_succ]
        refine wpList_run (v := .int .i64 (i : Int)) (wanted_none rfl) (exec_move rfl rfl) ?_
        simp only [Act.put, List.setIfInBounds_toArray, List.set_cons_zero, List.set_cons_succ]
        refine wpList_run (v := .pointer (some ⟨b2, o2 + i * 3, none⟩)) (wanted_none rfl) (gx_iaddr (i := i) (sz := 3) rfl rfl rfl Tryz.underlying22 size_op13 HLT.out rfl) ?_
        simp only [Act.put, List.setIfInBounds_toArray, List.set_cons_zero, List.set_cons_succ]
        refine wpList_run (v := .agg o.cells.toArray) (wanted_none rfl) (gx_loads rfl rfl HRG.out Tryz.underlying34 rfl (by rw [size_op13]; rfl)) ?_
        simp only [Act.put, List.setIfInBounds_toArray, List.set_cons_zero, List.set_cons_succ]
        refine wpList_new 34 (.tmp 13) (.tmp 66) o.cells.toArray rfl rfl (zero_op13 _) rfl rfl rfl rfl rfl rfl (by rw [size_op13]; rfl) (by simpa using o.one) ?_
        intro w8 g7 hge hbg ht8
        simp only [Act.put, List.setIfInBounds_toArray, List.set_cons_zero, List.set_cons_succ]
        have HB7 := Lib.hid (show Blk w8 g7 34 #[.int .i64 o.kind, .int .i64 o.member, .bool o.on] from hbg)
        have HT8 := Lib.hid (HTR.out.trans ht8 fun _ _ e => e)
        have H48 := Lib.hid (H4.out.still ht8)
        clear hge hbg ht8 H4 HTR HRG
        go_upto_region 16 with fail
        refine wp_region_lit ?_
        refine wpList_run (v := .pointer (some ⟨g7, 0, none⟩)) (wanted_none rfl) (exec_field (off := 0) (d := 0) rfl rfl (by kernel_rfl)) ?_
        simp only [Act.put, List.setIfInBounds_toArray, List.set_cons_zero, List.set_cons_succ]
        refine wpList_run (v := .int .i64 o.kind) (wanted_none rfl) (exec_load1 rfl rfl (by kernel_rfl) (HB7.out.cell 0)) ?_
        simp only [Act.put, List.setIfInBounds_toArray, List.set_cons_zero, List.set_cons_succ]
        refine wpList_run (v := .int .i64 o.kind) (wanted_none rfl) (gx_assign rfl rfl) ?_
        simp only [Act.put, List.setIfInBounds_toArray, List.set_cons_zero, List.set_cons_succ]
        have yk1 : -9223372036854775808 ≤ o.kind := HKK.out.1
        have yk2 : o.kind ≤ 9223372036854775807 := HKK.out.2
        go_upto_region 17 with fail
        refine wp_region_lit ?_
        refine wpList_run (v := .int .i64 o.kind) (wanted_none rfl) (exec_move rfl rfl) ?_
        simp only [Act.put, List.setIfInBounds_toArray, List.set_cons_zero, List.set_cons_succ]
        refine wpList_run (v := .bool (decide (o.kind < 0))) (wanted_none rfl) (ix_lss rfl rfl rfl rfl) ?_
        simp only [Act.put, List.setIfInBounds_toArray, List.set_cons_zero, List.set_cons_succ]
        go_upto_if 70 with fail
        go_cut [14] from 70 to 73 (fun kv wx => ∃ q : Nat, kv = .int .i64 (q : Int) ∧ (q : Int) ≤ 9223372036854775807 ∧ w8 = wx)
        case first =>
          by_cases hneg : o.kind < 0
          · rw [decide_eq_true hneg]
            obtain ⟨q, hq⟩ : ∃ q : Nat, (q : Int) = -(o.kind + 1) := ⟨(-(o.kind + 1)).toNat, by omega⟩
            have HQ := Lib.hid hq
            clear hq
            go_upto_region 18 with fail
            refine wp_region_lit ?_
            refine wpList_run (v := .int .i64 o.kind) (wanted_none rfl) (exec_move rfl rfl) ?_
            simp only [Act.put, List.setIfInBounds_toArray, List.set_cons_zero, List.set_cons_succ]
            refine wpList_run (v := .int .i64 (o.kind + 1)) (wanted_none rfl) (ix_add rfl rfl rfl rfl (by omega)) ?_
            simp only [Act.put, List.setIfInBounds_toArray, List.set_cons_zero, List.set_cons_succ]
            refine wpList_run (v := .int .i64 (q : Int)) (wanted_none rfl) (ix_neg13 rfl rfl (by have := HQ.out; omega) (by have := HQ.out; omega)) ?_
            simp only [Act.put, List.setIfInBounds_toArray, List.set_cons_zero, List.set_cons_succ]
            refine wpList_run (v := .int .i64 (q : Int)) (wanted_none rfl) (gx_assign rfl rfl) ?_
            simp only [Act.put, List.setIfInBounds_toArray, List.set_cons_zero, List.set_cons_succ]
            go_wp2_with fail
            go_meet
            exact ⟨q, rfl, by have := HQ.out; omega, rfl⟩
          · rw [decide_eq_false hneg]
            obtain ⟨q, hq⟩ : ∃ q : Nat, (q : Int) = o.kind := ⟨o.kind.toNat, by omega⟩
            have HQ := Lib.hid hq
            clear hq
            go_wp2_with fail
            go_meet
            exact ⟨q, by rw [HQ.out], by have := HQ.out; omega, rfl⟩
        obtain ⟨q, rfl, yq, hw⟩ := hcut
        subst hw
        go_upto_region 19 with fail
        refine wp_region_lit ?_
        refine wpList_run (v := .int .i64 0) (wanted_none rfl) (gx_assign rfl rfl) ?_
        simp only [Act.put, List.setIfInBounds_toArray, List.set_cons_zero, List.set_cons_succ]
        go_upto_region 20 with fail
        refine wp_region_lit ?_
        refine wpList_run (v := .pointer (some ⟨y, 0, none⟩)) (wanted_none rfl) (exec_move rfl rfl) ?_
        simp only [Act.put, List.setIfInBounds_toArray, List.set_cons_zero, List.set_cons_succ]
        refine wpList_run (v := .pointer (some ⟨g7, 1, none⟩)) (wanted_none rfl) (exec_field (off := 0) (d := 1) rfl rfl (by kernel_rfl)) ?_
        simp only [Act.put, List.setIfInBounds_toArray, List.set_cons_zero, List.set_cons_succ]
        refine wpList_run (v := .int .i64 o.member) (wanted_none rfl) (exec_load1 rfl rfl (by kernel_rfl) (HB7.out.cell 1)) ?_
        simp only [Act.put, List.setIfInBounds_toArray, List.set_cons_zero, List.set_cons_succ]
        refine wpList_op rfl fun K9 HK9 => ?_
        go_wp2_with fail
        refine (There_walk (m := o.member) H48.out.ry).mono ?_
        rintro e w9 ⟨rfl, hw⟩
        refine HK9.out _ _ ?_
        clear HK9
        try simp only [Act.put, List.setIfInBounds_toArray, List.set_cons_zero, List.set_cons_succ]
        obtain rfl := hw
        refine wpList_run (v := .bool (!(decide (isM (N : Int) o.member)))) (wanted_none rfl) (ix_not rfl rfl) ?_
        simp only [Act.put, List.setIfInBounds_toArray, List.set_cons_zero, List.set_cons_succ]
        go_upto_if 78 with fail
        go_cut [15] from 77 to 78 (fun kv wx => kv = .int .i64 (codeM (N : Int) o.member) ∧ w8 = wx)
        case first =>
          by_cases hM : isM (N : Int) o.member
          · rw [decide_eq_true hM]
            go_wp2_with fail
            go_meet
            exact ⟨by rw [show codeM (N : Int) o.member = 0 from if_pos hM], rfl⟩
          · rw [decide_eq_false hM]
            go_upto_region 21 with fail
            refine wp_region_lit ?_
            refine wpList_run (v := .int .i64 130) (wanted_none rfl) (gx_assign rfl rfl) ?_
            simp only [Act.put, List.setIfInBounds_toArray, List.set_cons_zero, List.set_cons_succ]
            go_wp2_with fail
            go_meet
            exact ⟨by rw [show codeM (N : Int) o.member = 130 from if_neg hM], rfl⟩
        obtain ⟨rfl, hw⟩ := hcut
        subst hw
        go_upto_region 22 with fail
        refine wp_region_lit ?_
        refine wpList_run (v := .int .i64 (q : Int)) (wanted_none rfl) (exec_move rfl rfl) ?_
        simp only [Act.put, List.setIfInBounds_toArray, List.set_cons_zero, List.set_cons_succ]
        refine wpList_run (v := .int .i64 ((q % 6 : Nat) : Int)) (wanted_none rfl) (ix_rem (m := 6) rfl rfl rfl (by decide) (by omega)) ?_
        simp only [Act.put, List.setIfInBounds_toArray, List.set_cons_zero, List.set_cons_succ]
        obtain ⟨r6, hr6⟩ : ∃ r, r = q % 6 := ⟨_, rfl⟩
        rw [← hr6]
        have yr6 : r6 < 6 := by omega
        clear hr6
        go_upto_block 2 with fail
        go_cut [6, 8, 10, 11, 16, 17] from 81 to 142 (fun xv yv zv uv s16 s17 wx => ∃ (px pz y s b yz sz bz : Nat) (l lz : List Bool), xv = .pointer (some ⟨px, 0, none⟩) ∧ yv = .pointer (some ⟨y, 0, none⟩) ∧ zv = .pointer (some ⟨pz, 0, none⟩) ∧ uv = .pointer (some ⟨yz, 0, none⟩) ∧ F4 wx w.heap.size N px pz y s b yz sz bz l l lz ∧ Turn nowhere w wx)
        case first =>
          rcases (by omega : r6 = 0 ∨ r6 = 1 ∨ r6 = 2 ∨ r6 = 3 ∨ r6 = 4 ∨ r6 = 5) with rfl | rfl | rfl | rfl | rfl | rfl
          · as_aux_lemma =>
              go_upto_region 23 with fail
              refine wp_region_lit ?_
              refine wpList_run (v := .bool true) (wanted_none rfl) (ix_eql rfl rfl rfl (by decide)) ?_
              simp only [Act.put, List.setIfInBounds_toArray, List.set_cons_zero, List.set_cons_succ]
              refine wpList_run (v := .bool true) (wanted_none rfl) (gx_assign rfl rfl) ?_
              simp only [Act.put, List.setIfInBounds_toArray, List.set_cons_zero, List.set_cons_succ]
              go_upto_region 25 with fail
              refine wp_region_lit ?_
              refine wpList_run (v := .pointer (some ⟨px, 0, none⟩)) (wanted_none rfl) (exec_move rfl rfl) ?_
              simp only [Act.put, List.setIfInBounds_toArray, List.set_cons_zero, List.set_cons_succ]
              refine wpList_run (v := .pointer (some ⟨g7, 1, none⟩)) (wanted_none rfl) (exec_field (off := 0) (d := 1) rfl rfl (by kernel_rfl)) ?_
              simp only [Act.put, List.setIfInBounds_toArray, List.set_cons_zero, List.set_cons_succ]
              refine wpList_run (v := .int .i64 o.member) (wanted_none rfl) (exec_load1 rfl rfl (by kernel_rfl) (HB7.out.cell 1)) ?_
              simp only [Act.put, List.setIfInBounds_toArray, List.set_cons_zero, List.set_cons_succ]
              refine wpList_run (v := .pointer (some ⟨g7, 2, none⟩)) (wanted_none rfl) (exec_field (off := 0) (d := 2) rfl rfl (by kernel_rfl)) ?_
              simp only [Act.put, List.setIfInBounds_toArray, List.set_cons_zero, List.set_cons_succ]
              refine wpList_run (v := .bool o.on) (wanted_none rfl) (exec_load1 rfl rfl (by kernel_rfl) (HB7.out.cell 2)) ?_
              simp only [Act.put, List.setIfInBounds_toArray, List.set_cons_zero, List.set_cons_succ]
              refine wpList_op rfl fun K9 HK9 => ?_
              go_wp2_with fail
              refine (Sign_walk (m := o.member) (on := o.on) H48.out.x).mono ?_
              rintro e w9 ⟨rfl, hb, ht⟩
              refine HK9.out _ _ ?_
              clear HK9
              try simp only [Act.put, List.setIfInBounds_toArray, List.set_cons_zero, List.set_cons_succ]
              have HBX := Lib.hid hb
              have HT1 := Lib.hid ht
              clear hb ht
              refine wpList_run (v := .int .i64 (codeM (N : Int) o.member)) (wanted_none rfl) (gx_assign rfl rfl) ?_
              simp only [Act.put, List.setIfInBounds_toArray, List.set_cons_zero, List.set_cons_succ]
              go_upto_region 26 with fail
              refine wp_region_lit ?_
              refine wpList_run (v := .int .i64 (codeM (N : Int) o.member)) (wanted_none rfl) (exec_move rfl rfl) ?_
              simp only [Act.put, List.setIfInBounds_toArray, List.set_cons_zero, List.set_cons_succ]
              refine wpList_run (v := .int .i64 (codeM (N : Int) o.member)) (wanted_none rfl) (exec_move rfl rfl) ?_
              simp only [Act.put, List.setIfInBounds_toArray, List.set_cons_zero, List.set_cons_succ]
              refine wpList_run (v := .bool false) (wanted_none rfl) (ix_neq rfl rfl rfl (decide_eq_false (not_not_intro rfl))) ?_
              simp only [Act.put, List.setIfInBounds_toArray, List.set_cons_zero, List.set_cons_succ]
              have HPX := Lib.hid (show w.heap.size ≤ px from H48.out.nw px (List.mem_cons_self ..))
              have HT9 := Lib.hid (above13 HT8.out HPX.out HT1.out)
              by_cases hM : isM (N : Int) o.member
              · have HC0 := Lib.hid (show codeM (N : Int) o.member = 0 from if_pos hM)
                obtain ⟨j, hj⟩ : ∃ j : Nat, o.member = (j : Int) := ⟨o.member.toNat, by have := hM.1; omega⟩
                have HJ := Lib.hid hj
                have HJN := Lib.hid (show j < N from by have := hM.2; omega)
                have HSL := Lib.hid (show signL 0 N o.member o.on l = l.set (2 * j + 0) o.on from by
                  unfold signL
                  rw [if_pos hM, hj]
                  rfl)
                have hb9 := HBX.out
                rw [HSL.out] at hb9
                have HF9 := Lib.hid (H48.out.setx hb9 HT1.out)
                have HB9 := Lib.hid (HB7.out.turn HT1.out (HB7.out.ne_ H48.out.x.blk (by decide)))
                clear hM hj hb9
                go_upto_region 28 with fail
                refine wp_region_lit ?_
                refine wpList_run (v := .int .i64 (codeM (N : Int) o.member)) (wanted_none rfl) (exec_move rfl rfl) ?_
                simp only [Act.put, List.setIfInBounds_toArray, List.set_cons_zero, List.set_cons_succ]
                refine wpList_run (v := .bool true) (wanted_none rfl) (ix_eql rfl rfl rfl (decide_eq_true HC0.out)) ?_
                simp only [Act.put, List.setIfInBounds_toArray, List.set_cons_zero, List.set_cons_succ]
                obtain ⟨cs, cb, hr1, hr2, hr3⟩ := HF9.out.ry.row
                obtain ⟨cur, hcur, hcs, _, _, hnc, _, _⟩ := orw_block hr2
                have HCUR := Lib.hid hcur
                have HLEN := Lib.hid (show j < cur.size from by have := HJN.out; omega)
                have HY9 := Lib.hid hr1
                have HYS := Lib.hid (show y ≠ s from by exact HF9.out.ry.lts.2.2.2.1)
                have HGS := Lib.hid (show g7 ≠ s from HB9.out.ne_ hcur (by decide))
                have HNS := Lib.hid (show w.heap.size ≤ s from HF9.out.nw s (by simp))
                clear hr1 hr2 hr3 hcur hcs hnc
                go_upto_region 29 with fail
                refine wp_region_alw (fun W => Blk W y 39 #[.slice (some ⟨s, 0, none⟩) N cs, .slice (some ⟨b, 0, none⟩) N cb] ∧ Blk W g7 34 #[.int .i64 o.kind, .int .i64 o.member, .bool o.on]) (by kernel_rfl) ?_
                have HSD := Lib.hid (show Blk w9.drew y 39 #[.slice (some ⟨s, 0, none⟩) N cs, .slice (some ⟨b, 0, none⟩) N cb] ∧ Blk w9.drew g7 34 #[.int .i64 o.kind, .int .i64 o.member, .bool o.on] from ⟨HY9.out.drew, HB9.out.drew⟩)
                have HTD := Lib.hid ((Turn.refl nowhere w9).drew)
                generalize w9.drew = wd at *
                refine alw_take (i := 0) (v := .pointer (some ⟨y, 0, none⟩)) rfl (by kernel_rfl) (by kernel_rfl) (fun _ _ _ h => h) (.inl ⟨by rfl, fun W hW => exec_move rfl rfl⟩) HSD.out ?_
                simp only [Act.put, List.setIfInBounds_toArray, List.set_cons_zero, List.set_cons_succ]
                refine alw_take (i := 1) (v := .pointer (some ⟨y, 0, none⟩)) rfl (by kernel_rfl) (by kernel_rfl) (fun _ _ _ h => h) (.inl ⟨by rfl, fun W hW => exec_nil rfl rfl⟩) HSD.out ?_
                simp only [Act.put, List.setIfInBounds_toArray, List.set_cons_zero, List.set_cons_succ]
                refine alw_take (i := 2) (v := .pointer (some ⟨y, 0, none⟩)) rfl (by kernel_rfl) (by kernel_rfl) (fun _ _ _ h => h) (.inl ⟨by rfl, fun W hW => exec_field (off := 0) (d := 0) rfl rfl (by kernel_rfl)⟩) HSD.out ?_
                simp only [Act.put, List.setIfInBounds_toArray, List.set_cons_zero, List.set_cons_succ]
                refine alw_take (i := 3) (v := .slice (some ⟨s, 0, none⟩) N cs) rfl (by kernel_rfl) (by kernel_rfl) (fun _ _ _ h => h) (.inl ⟨by rfl, fun W hW => exec_load1 rfl rfl (by kernel_rfl) (hW.1.cell 0)⟩) HSD.out ?_
                simp only [Act.put, List.setIfInBounds_toArray, List.set_cons_zero, List.set_cons_succ]
                refine alw_take (i := 4) (v := .pointer (some ⟨g7, 1, none⟩)) rfl (by kernel_rfl) (by kernel_rfl) (fun _ _ _ h => h) (.inl ⟨by rfl, fun W hW => exec_field (off := 0) (d := 1) rfl rfl (by kernel_rfl)⟩) HSD.out ?_
                simp only [Act.put, List.setIfInBounds_toArray, List.set_cons_zero, List.set_cons_succ]
                refine alw_take (i := 5) (v := .int .i64 o.member) rfl (by kernel_rfl) (by kernel_rfl) (fun _ _ _ h => h) (.inl ⟨by rfl, fun W hW => exec_load1 rfl rfl (by kernel_rfl) (hW.2.cell 1)⟩) HSD.out ?_
                simp only [Act.put, List.setIfInBounds_toArray, List.set_cons_zero, List.set_cons_succ]
                refine alw_take (i := 6) (v := .pointer (some ⟨g7, 2, none⟩)) rfl (by kernel_rfl) (by kernel_rfl) (fun _ _ _ h => h) (.inl ⟨by rfl, fun W hW => exec_field (off := 0) (d := 2) rfl rfl (by kernel_rfl)⟩) HSD.out ?_
                simp only [Act.put, List.setIfInBounds_toArray, List.set_cons_zero, List.set_cons_succ]
                refine alw_take (i := 7) (v := .bool o.on) rfl (by kernel_rfl) (by kernel_rfl) (fun _ _ _ h => h) (.inl ⟨by rfl, fun W hW => exec_load1 rfl rfl (by kernel_rfl) (hW.2.cell 2)⟩) HSD.out ?_
                simp only [Act.put, List.setIfInBounds_toArray, List.set_cons_zero, List.set_cons_succ]
                refine alw_take (i := 8) (v := .pointer (some ⟨s, 0 + j * 1, none⟩)) rfl (by kernel_rfl) (by kernel_rfl) (fun _ _ _ h => h) (.inl ⟨by rfl, fun W hW => gx_iaddr (i := j) (sz := 1) rfl rfl (by rw [← HJ.out]; rfl) Tryz.underlying37 size_bl HJN.out rfl⟩) HSD.out ?_
                simp only [Act.put, List.setIfInBounds_toArray, List.set_cons_zero, List.set_cons_succ]
                refine alw_step (i := 9) (by kernel_rfl) rfl rfl ?_
                intro K1 HK1
                refine wp_store1U 4 (.tmp 103) (.tmp 102) rfl (HCUR.out.turn HTD.out fun e => e) rfl rfl (by have := HLEN.out; omega) rfl rfl size_bl ?_
                intro w10 hb10 ht10
                have HS10 := Lib.hid (show Blk w10 y 39 #[.slice (some ⟨s, 0, none⟩) N cs, .slice (some ⟨b, 0, none⟩) N cb] ∧ Blk w10 g7 34 #[.int .i64 o.kind, .int .i64 o.member, .bool o.on] from ⟨HSD.out.1.turn ht10 HYS.out, HSD.out.2.turn ht10 HGS.out⟩)
                refine HK1.out _ _ ⟨HS10.out, ?_⟩
                clear HK1
                try simp only [Act.put, List.setIfInBounds_toArray, List.set_cons_zero, List.set_cons_succ]
                refine alw_done rfl ?_
                refine NoPanic.normal ?_
                have HR10 := Lib.hid ((HF9.out.still HTD.out).ry.sign0 (on := o.on) H48.out.x.len HJN.out (HCUR.out.turn HTD.out fun e => e) hb10 (by simp) (set_cells HLEN.out) ht10)
                have HF10 := Lib.hid ((HF9.out.still HTD.out).sets HR10.out ht10)
                have HT10 := Lib.hid (above13 (HT9.out.trans HTD.out fun _ _ e => e) HNS.out ht10)
                clear hb10 ht10
                go_wp2_with fail
                go_meet
                exact ⟨px, pz, y, s, b, yz, sz, bz, l.set (2 * j + 0) o.on, lz, rfl, rfl, rfl, rfl, HF10.out, HT10.out⟩
              · have HC0 := Lib.hid (show ¬ codeM (N : Int) o.member = 0 from by rw [show codeM (N : Int) o.member = 130 from if_neg hM]; decide)
                have hb9 := HBX.out
                rw [show signL 0 N o.member o.on l = l from if_neg hM] at hb9
                have HF9 := Lib.hid (H48.out.setx hb9 HT1.out)
                clear hM hb9
                go_upto_region 28 with fail
                refine wp_region_lit ?_
                refine wpList_run (v := .int .i64 (codeM (N : Int) o.member)) (wanted_none rfl) (exec_move rfl rfl) ?_
                simp only [Act.put, List.setIfInBounds_toArray, List.set_cons_zero, List.set_cons_succ]
                refine wpList_run (v := .bool false) (wanted_none rfl) (ix_eql rfl rfl rfl (decide_eq_false HC0.out)) ?_
                simp only [Act.put, List.setIfInBounds_toArray, List.set_cons_zero, List.set_cons_succ]
                go_wp2_with fail
                go_meet
                exact ⟨px, pz, y, s, b, yz, sz, bz, l, lz, rfl, rfl, rfl, rfl, HF9.out, HT9.out⟩
          · as_aux_lemma =>
              go_upto_region 23 with fail
              refine wp_region_lit ?_
              refine wpList_run (v := .bool false) (wanted_none rfl) (ix_eql rfl rfl rfl (by decide)) ?_
              simp only [Act.put, List.setIfInBounds_toArray, List.set_cons_zero, List.set_cons_succ]
              refine wpList_run (v := .bool false) (wanted_none rfl) (gx_assign rfl rfl) ?_
              simp only [Act.put, List.setIfInBounds_toArray, List.set_cons_zero, List.set_cons_succ]
              go_upto_region 24 with fail
              refine wp_region_lit ?_
              refine wpList_run (v := .bool true) (wanted_none rfl) (ix_eql rfl rfl rfl (by decide)) ?_
              simp only [Act.put, List.setIfInBounds_toArray, List.set_cons_zero, List.set_cons_succ]
              refine wpList_run (v := .bool true) (wanted_none rfl) (gx_assign rfl rfl) ?_
              simp only [Act.put, List.setIfInBounds_toArray, List.set_cons_zero, List.set_cons_succ]
              go_upto_region 25 with fail
              refine wp_region_lit ?_
              refine wpList_run (v := .pointer (some ⟨px, 0, none⟩)) (wanted_none rfl) (exec_move rfl rfl) ?_
              simp only [Act.put, List.setIfInBounds_toArray, List.set_cons_zero, List.set_cons_succ]
              refine wpList_run (v := .pointer (some ⟨g7, 1, none⟩)) (wanted_none rfl) (exec_field (off := 0) (d := 1) rfl rfl (by kernel_rfl)) ?_
              simp only [Act.put, List.setIfInBounds_toArray, List.set_cons_zero, List.set_cons_succ]
              refine wpList_run (v := .int .i64 o.member) (wanted_none rfl) (exec_load1 rfl rfl (by kernel_rfl) (HB7.out.cell 1)) ?_
              simp only [Act.put, List.setIfInBounds_toArray, List.set_cons_zero, List.set_cons_succ]
              refine wpList_run (v := .pointer (some ⟨g7, 2, none⟩)) (wanted_none rfl) (exec_field (off := 0) (d := 2) rfl rfl (by kernel_rfl)) ?_
              simp only [Act.put, List.setIfInBounds_toArray, List.set_cons_zero, List.set_cons_succ]
              refine wpList_run (v := .bool o.on) (wanted_none rfl) (exec_load1 rfl rfl (by kernel_rfl) (HB7.out.cell 2)) ?_
              simp only [Act.put, List.setIfInBounds_toArray, List.set_cons_zero, List.set_cons_succ]
              refine wpList_op rfl fun K9 HK9 => ?_
              go_wp2_with fail
              refine (Sign_walk (m := o.member) (on := o.on) H48.out.x).mono ?_
              rintro e w9 ⟨rfl, hb, ht⟩
              refine HK9.out _ _ ?_
              clear HK9
              try simp only [Act.put, List.setIfInBounds_toArray, List.set_cons_zero, List.set_cons_succ]
              have HBX := Lib.hid hb
              have HT1 := Lib.hid ht
              clear hb ht
              refine wpList_run (v := .int .i64 (codeM (N : Int) o.member)) (wanted_none rfl) (gx_assign rfl rfl) ?_
              simp only [Act.put, List.setIfInBounds_toArray, List.set_cons_zero, List.set_cons_succ]
              go_upto_region 26 with fail
              refine wp_region_lit ?_
              refine wpList_run (v := .int .i64 (codeM (N : Int) o.member)) (wanted_none rfl) (exec_move rfl rfl) ?_
              simp only [Act.put, List.setIfInBounds_toArray, List.set_cons_zero, List.set_cons_succ]
              refine wpList_run (v := .int .i64 (codeM (N : Int) o.member)) (wanted_none rfl) (exec_move rfl rfl) ?_
              simp only [Act.put, List.setIfInBounds_toArray, List.set_cons_zero, List.set_cons_succ]
              refine wpList_run (v := .bool false) (wanted_none rfl) (ix_neq rfl rfl rfl (decide_eq_false (not_not_intro rfl))) ?_
              simp only [Act.put, List.setIfInBounds_toArray, List.set_cons_zero, List.set_cons_succ]
              have HPX := Lib.hid (show w.heap.size ≤ px from H48.out.nw px (List.mem_cons_self ..))
              have HT9 := Lib.hid (above13 HT8.out HPX.out HT1.out)
              by_cases hM : isM (N : Int) o.member
              · have HC0 := Lib.hid (show codeM (N : Int) o.member = 0 from if_pos hM)
                obtain ⟨j, hj⟩ : ∃ j : Nat, o.member = (j : Int) := ⟨o.member.toNat, by have := hM.1; omega⟩
                have HJ := Lib.hid hj
                have HJN := Lib.hid (show j < N from by have := hM.2; omega)
                have HSL := Lib.hid (show signL 0 N o.member o.on l = l.set (2 * j + 0) o.on from by
                  unfold signL
                  rw [if_pos hM, hj]
                  rfl)
                have hb9 := HBX.out
                rw [HSL.out] at hb9
                have HF9 := Lib.hid (H48.out.setx hb9 HT1.out)
                have HB9 := Lib.hid (HB7.out.turn HT1.out (HB7.out.ne_ H48.out.x.blk (by decide)))
                clear hM hj hb9
                go_upto_region 28 with fail
                refine wp_region_lit ?_
                refine wpList_run (v := .int .i64 (codeM (N : Int) o.member)) (wanted_none rfl) (exec_move rfl rfl) ?_
                simp only [Act.put, List.setIfInBounds_toArray, List.set_cons_zero, List.set_cons_succ]
                refine wpList_run (v := .bool true) (wanted_none rfl) (ix_eql rfl rfl rfl (decide_eq_true HC0.out)) ?_
                simp only [Act.put, List.setIfInBounds_toArray, List.set_cons_zero, List.set_cons_succ]
                obtain ⟨cs, cb, hr1, hr2, hr3⟩ := HF9.out.ry.row
                obtain ⟨cur, hcur, hcs, _, _, hnc, _, _⟩ := orw_block hr2
                have HCUR := Lib.hid hcur
                have HLEN := Lib.hid (show j < cur.size from by have := HJN.out; omega)
                have HY9 := Lib.hid hr1
                have HYS := Lib.hid (show y ≠ s from by exact HF9.out.ry.lts.2.2.2.1)
                have HGS := Lib.hid (show g7 ≠ s from HB9.out.ne_ hcur (by decide))
                have HNS := Lib.hid (show w.heap.size ≤ s from HF9.out.nw s (by simp))
                clear hr1 hr2 hr3 hcur hcs hnc
                go_upto_region 29 with fail
                refine wp_region_alw (fun W => Blk W y 39 #[.slice (some ⟨s, 0, none⟩) N cs, .slice (some ⟨b, 0, none⟩) N cb] ∧ Blk W g7 34 #[.int .i64 o.kind, .int .i64 o.member, .bool o.on]) (by kernel_rfl) ?_
                have HSD := Lib.hid (show Blk w9.drew y 39 #[.slice (some ⟨s, 0, none⟩) N cs, .slice (some ⟨b, 0, none⟩) N cb] ∧ Blk w9.drew g7 34 #[.int .i64 o.kind, .int .i64 o.member, .bool o.on] from ⟨HY9.out.drew, HB9.out.drew⟩)
                have HTD := Lib.hid ((Turn.refl nowhere w9).drew)
                generalize w9.drew = wd at *
                refine alw_take (i := 0) (v := .pointer (some ⟨y, 0, none⟩)) rfl (by kernel_rfl) (by kernel_rfl) (fun _ _ _ h => h) (.inl ⟨by rfl, fun W hW => exec_move rfl rfl⟩) HSD.out ?_
                simp only [Act.put, List.setIfInBounds_toArray, List.set_cons_zero, List.set_cons_succ]
                refine alw_take (i := 1) (v := .pointer (some ⟨y, 0, none⟩)) rfl (by kernel_rfl) (by kernel_rfl) (fun _ _ _ h => h) (.inl ⟨by rfl, fun W hW => exec_nil rfl rfl⟩) HSD.out ?_
                simp only [Act.put, List.setIfInBounds_toArray, List.set_cons_zero, List.set_cons_succ]
                refine alw_take (i := 2) (v := .pointer (some ⟨y, 0, none⟩)) rfl (by kernel_rfl) (by kernel_rfl) (fun _ _ _ h => h) (.inl ⟨by rfl, fun W hW => exec_field (off := 0) (d := 0) rfl rfl (by kernel_rfl)⟩) HSD.out ?_
                simp only [Act.put, List.setIfInBounds_toArray, List.set_cons_zero, List.set_cons_succ]
                refine alw_take (i := 3) (v := .slice (some ⟨s, 0, none⟩) N cs) rfl (by kernel_rfl) (by kernel_rfl) (fun _ _ _ h => h) (.inl ⟨by rfl, fun W hW => exec_load1 rfl rfl (by kernel_rfl) (hW.1.cell 0)⟩) HSD.out ?_
                simp only [Act.put, List.setIfInBounds_toArray, List.set_cons_zero, List.set_cons_succ]
                refine alw_take (i := 4) (v := .pointer (some ⟨g7, 1, none⟩)) rfl (by kernel_rfl) (by kernel_rfl) (fun _ _ _ h => h) (.inl ⟨by rfl, fun W hW => exec_field (off := 0) (d := 1) rfl rfl (by kernel_rfl)⟩) HSD.out ?_
                simp only [Act.put, List.setIfInBounds_toArray, List.set_cons_zero, List.set_cons_succ]
                refine alw_take (i := 5) (v := .int .i64 o.member) rfl (by kernel_rfl) (by kernel_rfl) (fun _ _ _ h => h) (.inl ⟨by rfl, fun W hW => exec_load1 rfl rfl (by kernel_rfl) (hW.2.cell 1)⟩) HSD.out ?_
                simp only [Act.put, List.setIfInBounds_toArray, List.set_cons_zero, List.set_cons_succ]
                refine alw_take (i := 6) (v := .pointer (some ⟨g7, 2, none⟩)) rfl (by kernel_rfl) (by kernel_rfl) (fun _ _ _ h => h) (.inl ⟨by rfl, fun W hW => exec_field (off := 0) (d := 2) rfl rfl (by kernel_rfl)⟩) HSD.out ?_
                simp only [Act.put, List.setIfInBounds_toArray, List.set_cons_zero, List.set_cons_succ]
                refine alw_take (i := 7) (v := .bool o.on) rfl (by kernel_rfl) (by kernel_rfl) (fun _ _ _ h => h) (.inl ⟨by rfl, fun W hW => exec_load1 rfl rfl (by kernel_rfl) (hW.2.cell 2)⟩) HSD.out ?_
                simp only [Act.put, List.setIfInBounds_toArray, List.set_cons_zero, List.set_cons_succ]
                refine alw_take (i := 8) (v := .pointer (some ⟨s, 0 + j * 1, none⟩)) rfl (by kernel_rfl) (by kernel_rfl) (fun _ _ _ h => h) (.inl ⟨by rfl, fun W hW => gx_iaddr (i := j) (sz := 1) rfl rfl (by rw [← HJ.out]; rfl) Tryz.underlying37 size_bl HJN.out rfl⟩) HSD.out ?_
                simp only [Act.put, List.setIfInBounds_toArray, List.set_cons_zero, List.set_cons_succ]
                refine alw_step (i := 9) (by kernel_rfl) rfl rfl ?_
                intro K1 HK1
                refine wp_store1U 4 (.tmp 103) (.tmp 102) rfl (HCUR.out.turn HTD.out fun e => e) rfl rfl (by have := HLEN.out; omega) rfl rfl size_bl ?_
                intro w10 hb10 ht10
                have HS10 := Lib.hid (show Blk w10 y 39 #[.slice (some ⟨s, 0, none⟩) N cs, .slice (some ⟨b, 0, none⟩) N cb] ∧ Blk w10 g7 34 #[.int .i64 o.kind, .int .i64 o.member, .bool o.on] from ⟨HSD.out.1.turn ht10 HYS.out, HSD.out.2.turn ht10 HGS.out⟩)
                refine HK1.out _ _ ⟨HS10.out, ?_⟩
                clear HK1
                try simp only [Act.put, List.setIfInBounds_toArray, List.set_cons_zero, List.set_cons_succ]
                refine alw_done rfl ?_
                refine NoPanic.normal ?_
                have HR10 := Lib.hid ((HF9.out.still HTD.out).ry.sign0 (on := o.on) H48.out.x.len HJN.out (HCUR.out.turn HTD.out fun e => e) hb10 (by simp) (set_cells HLEN.out) ht10)
                have HF10 := Lib.hid ((HF9.out.still HTD.out).sets HR10.out ht10)
                have HT10 := Lib.hid (above13 (HT9.out.trans HTD.out fun _ _ e => e) HNS.out ht10)
                clear hb10 ht10
                go_wp2_with fail
                go_meet
                exact ⟨px, pz, y, s, b, yz, sz, bz, l.set (2 * j + 0) o.on, lz, rfl, rfl, rfl, rfl, HF10.out, HT10.out⟩
              · have HC0 := Lib.hid (show ¬ codeM (N : Int) o.member = 0 from by rw [show codeM (N : Int) o.member = 130 from if_neg hM]; decide)
                have hb9 := HBX.out
                rw [show signL 0 N o.member o.on l = l from if_neg hM] at hb9
                have HF9 := Lib.hid (H48.out.setx hb9 HT1.out)
                clear hM hb9
                go_upto_region 28 with fail
                refine wp_region_lit ?_
                refine wpList_run (v := .int .i64 (codeM (N : Int) o.member)) (wanted_none rfl) (exec_move rfl rfl) ?_
                simp only [Act.put, List.setIfInBounds_toArray, List.set_cons_zero, List.set_cons_succ]
                refine wpList_run (v := .bool false) (wanted_none rfl) (ix_eql rfl rfl rfl (decide_eq_false HC0.out)) ?_
                simp only [Act.put, List.setIfInBounds_toArray, List.set_cons_zero, List.set_cons_succ]
                go_wp2_with fail
                go_meet
                exact ⟨px, pz, y, s, b, yz, sz, bz, l, lz, rfl, rfl, rfl, rfl, HF9.out, HT9.out⟩
          · as_aux_lemma =>
              go_upto_region 23 with fail
              refine wp_region_lit ?_
              refine wpList_run (v := .bool false) (wanted_none rfl) (ix_eql rfl rfl rfl (by decide)) ?_
              simp only [Act.put, List.setIfInBounds_toArray, List.set_cons_zero, List.set_cons_succ]
              refine wpList_run (v := .bool false) (wanted_none rfl) (gx_assign rfl rfl) ?_
              simp only [Act.put, List.setIfInBounds_toArray, List.set_cons_zero, List.set_cons_succ]
              go_upto_region 24 with fail
              refine wp_region_lit ?_
              refine wpList_run (v := .bool false) (wanted_none rfl) (ix_eql rfl rfl rfl (by decide)) ?_
              simp only [Act.put, List.setIfInBounds_toArray, List.set_cons_zero, List.set_cons_succ]
              refine wpList_run (v := .bool false) (wanted_none rfl) (gx_assign rfl rfl) ?_
              simp only [Act.put, List.setIfInBounds_toArray, List.set_cons_zero, List.set_cons_succ]
              go_upto_region 30 with fail
              refine wp_region_lit ?_
              refine wpList_run (v := .bool true) (wanted_none rfl) (ix_eql rfl rfl rfl (by decide)) ?_
              simp only [Act.put, List.setIfInBounds_toArray, List.set_cons_zero, List.set_cons_succ]
              refine wpList_run (v := .bool true) (wanted_none rfl) (gx_assign rfl rfl) ?_
              simp only [Act.put, List.setIfInBounds_toArray, List.set_cons_zero, List.set_cons_succ]
              go_upto_region 32 with fail
              refine wp_region_lit ?_
              refine wpList_run (v := .pointer (some ⟨px, 0, none⟩)) (wanted_none rfl) (exec_move rfl rfl) ?_
              simp only [Act.put, List.setIfInBounds_toArray, List.set_cons_zero, List.set_cons_succ]
              refine wpList_run (v := .pointer (some ⟨g7, 1, none⟩)) (wanted_none rfl) (exec_field (off := 0) (d := 1) rfl rfl (by kernel_rfl)) ?_
              simp only [Act.put, List.setIfInBounds_toArray, List.set_cons_zero, List.set_cons_succ]
              refine wpList_run (v := .int .i64 o.member) (wanted_none rfl) (exec_load1 rfl rfl (by kernel_rfl) (HB7.out.cell 1)) ?_
              simp only [Act.put, List.setIfInBounds_toArray, List.set_cons_zero, List.set_cons_succ]
              refine wpList_run (v := .pointer (some ⟨g7, 2, none⟩)) (wanted_none rfl) (exec_field (off := 0) (d := 2) rfl rfl (by kernel_rfl)) ?_
              simp only [Act.put, List.setIfInBounds_toArray, List.set_cons_zero, List.set_cons_succ]
              refine wpList_run (v := .bool o.on) (wanted_none rfl) (exec_load1 rfl rfl (by kernel_rfl) (HB7.out.cell 2)) ?_
              simp only [Act.put, List.setIfInBounds_toArray, List.set_cons_zero, List.set_cons_succ]
              refine wpList_op rfl fun K9 HK9 => ?_
              go_wp2_with fail
              refine (Block_walk (m := o.member) (on := o.on) H48.out.x).mono ?_
              rintro e w9 ⟨rfl, hb, ht⟩
              refine HK9.out _ _ ?_
              clear HK9
              try simp only [Act.put, List.setIfInBounds_toArray, List.set_cons_zero, List.set_cons_succ]
              have HBX := Lib.hid hb
              have HT1 := Lib.hid ht
              clear hb ht
              refine wpList_run (v := .int .i64 (codeM (N : Int) o.member)) (wanted_none rfl) (gx_assign rfl rfl) ?_
              simp only [Act.put, List.setIfInBounds_toArray, List.set_cons_zero, List.set_cons_succ]
              go_upto_region 33 with fail
              refine wp_region_lit ?_
              refine wpList_run (v := .int .i64 (codeM (N : Int) o.member)) (wanted_none rfl) (exec_move rfl rfl) ?_
              simp only [Act.put, List.setIfInBounds_toArray, List.set_cons_zero, List.set_cons_succ]
              refine wpList_run (v := .int .i64 (codeM (N : Int) o.member)) (wanted_none rfl) (exec_move rfl rfl) ?_
              simp only [Act.put, List.setIfInBounds_toArray, List.set_cons_zero, List.set_cons_succ]
              refine wpList_run (v := .bool false) (wanted_none rfl) (ix_neq rfl rfl rfl (decide_eq_false (not_not_intro rfl))) ?_
              simp only [Act.put, List.setIfInBounds_toArray, List.set_cons_zero, List.set_cons_succ]
              have HPX := Lib.hid (show w.heap.size ≤ px from H48.out.nw px (List.mem_cons_self ..))
              have HT9 := Lib.hid (above13 HT8.out HPX.out HT1.out)
              by_cases hM : isM (N : Int) o.member
              · have HC0 := Lib.hid (show codeM (N : Int) o.member = 0 from if_pos hM)
                obtain ⟨j, hj⟩ : ∃ j : Nat, o.member = (j : Int) := ⟨o.member.toNat, by have := hM.1; omega⟩
                have HJ := Lib.hid hj
                have HJN := Lib.hid (show j < N from by have := hM.2; omega)
                have HSL := Lib.hid (show signL 1 N o.member o.on l = l.set (2 * j + 1) o.on from by
                  unfold signL
                  rw [if_pos hM, hj]
                  rfl)
                have hb9 := HBX.out
                rw [HSL.out] at hb9
                have HF9 := Lib.hid (H48.out.setx hb9 HT1.out)
                have HB9 := Lib.hid (HB7.out.turn HT1.out (HB7.out.ne_ H48.out.x.blk (by decide)))
                clear hM hj hb9
                go_upto_region 35 with fail
                refine wp_region_lit ?_
                refine wpList_run (v := .int .i64 (codeM (N : Int) o.member)) (wanted_none rfl) (exec_move rfl rfl) ?_
                simp only [Act.put, List.setIfInBounds_toArray, List.set_cons_zero, List.set_cons_succ]
                refine wpList_run (v := .bool true) (wanted_none rfl) (ix_eql rfl rfl rfl (decide_eq_true HC0.out)) ?_
                simp only [Act.put, List.setIfInBounds_toArray, List.set_cons_zero, List.set_cons_succ]
                obtain ⟨cs, cb, hr1, hr2, hr3⟩ := HF9.out.ry.row
                obtain ⟨cur, hcur, hcs, _, _, hnc, _, _⟩ := orw_block hr3
                have HCUR := Lib.hid hcur
                have HLEN := Lib.hid (show j < cur.size from by have := HJN.out; omega)
                have HY9 := Lib.hid hr1
                have HYS := Lib.hid (show y ≠ b from by exact HF9.out.ry.lts.2.2.2.2.1)
                have HGS := Lib.hid (show g7 ≠ b from HB9.out.ne_ hcur (by decide))
                have HNS := Lib.hid (show w.heap.size ≤ b from HF9.out.nw b (by simp))
                clear hr1 hr2 hr3 hcur hcs hnc
                go_upto_region 36 with fail
                refine wp_region_alw (fun W => Blk W y 39 #[.slice (some ⟨s, 0, none⟩) N cs, .slice (some ⟨b, 0, none⟩) N cb] ∧ Blk W g7 34 #[.int .i64 o.kind, .int .i64 o.member, .bool o.on]) (by kernel_rfl) ?_
                have HSD := Lib.hid (show Blk w9.drew y 39 #[.slice (some ⟨s, 0, none⟩) N cs, .slice (some ⟨b, 0, none⟩) N cb] ∧ Blk w9.drew g7 34 #[.int .i64 o.kind, .int .i64 o.member, .bool o.on] from ⟨HY9.out.drew, HB9.out.drew⟩)
                have HTD := Lib.hid ((Turn.refl nowhere w9).drew)
                generalize w9.drew = wd at *
                refine alw_take (i := 0) (v := .pointer (some ⟨y, 0, none⟩)) rfl (by kernel_rfl) (by kernel_rfl) (fun _ _ _ h => h) (.inl ⟨by rfl, fun W hW => exec_move rfl rfl⟩) HSD.out ?_
                simp only [Act.put, List.setIfInBounds_toArray, List.set_cons_zero, List.set_cons_succ]
                refine alw_take (i := 1) (v := .pointer (some ⟨y, 0, none⟩)) rfl (by kernel_rfl) (by kernel_rfl) (fun _ _ _ h => h) (.inl ⟨by rfl, fun W hW => exec_nil rfl rfl⟩) HSD.out ?_
                simp only [Act.put, List.setIfInBounds_toArray, List.set_cons_zero, List.set_cons_succ]
                refine alw_take (i := 2) (v := .pointer (some ⟨y, 1, none⟩)) rfl (by kernel_rfl) (by kernel_rfl) (fun _ _ _ h => h) (.inl ⟨by rfl, fun W hW => exec_field (off := 0) (d := 1) rfl rfl (by kernel_rfl)⟩) HSD.out ?_
                simp only [Act.put, List.setIfInBounds_toArray, List.set_cons_zero, List.set_cons_succ]
                refine alw_take (i := 3) (v := .slice (some ⟨b, 0, none⟩) N cb) rfl (by kernel_rfl) (by kernel_rfl) (fun _ _ _ h => h) (.inl ⟨by rfl, fun W hW => exec_load1 rfl rfl (by kernel_rfl) (hW.1.cell 1)⟩) HSD.out ?_
                simp only [Act.put, List.setIfInBounds_toArray, List.set_cons_zero, List.set_cons_succ]
                refine alw_take (i := 4) (v := .pointer (some ⟨g7, 1, none⟩)) rfl (by kernel_rfl) (by kernel_rfl) (fun _ _ _ h => h) (.inl ⟨by rfl, fun W hW => exec_field (off := 0) (d := 1) rfl rfl (by kernel_rfl)⟩) HSD.out ?_
                simp only [Act.put, List.setIfInBounds_toArray, List.set_cons_zero, List.set_cons_succ]
                refine alw_take (i := 5) (v := .int .i64 o.member) rfl (by kernel_rfl) (by kernel_rfl) (fun _ _ _ h => h) (.inl ⟨by rfl, fun W hW => exec_load1 rfl rfl (by kernel_rfl) (hW.2.cell 1)⟩) HSD.out ?_
                simp only [Act.put, List.setIfInBounds_toArray, List.set_cons_zero, List.set_cons_succ]
                refine alw_take (i := 6) (v := .pointer (some ⟨g7, 2, none⟩)) rfl (by kernel_rfl) (by kernel_rfl) (fun _ _ _ h => h) (.inl ⟨by rfl, fun W hW => exec_field (off := 0) (d := 2) rfl rfl (by kernel_rfl)⟩) HSD.out ?_
                simp only [Act.put, List.setIfInBounds_toArray, List.set_cons_zero, List.set_cons_succ]
                refine alw_take (i := 7) (v := .bool o.on) rfl (by kernel_rfl) (by kernel_rfl) (fun _ _ _ h => h) (.inl ⟨by rfl, fun W hW => exec_load1 rfl rfl (by kernel_rfl) (hW.2.cell 2)⟩) HSD.out ?_
                simp only [Act.put, List.setIfInBounds_toArray, List.set_cons_zero, List.set_cons_succ]
                refine alw_take (i := 8) (v := .pointer (some ⟨b, 0 + j * 1, none⟩)) rfl (by kernel_rfl) (by kernel_rfl) (fun _ _ _ h => h) (.inl ⟨by rfl, fun W hW => gx_iaddr (i := j) (sz := 1) rfl rfl (by rw [← HJ.out]; rfl) Tryz.underlying37 size_bl HJN.out rfl⟩) HSD.out ?_
                simp only [Act.put, List.setIfInBounds_toArray, List.set_cons_zero, List.set_cons_succ]
                refine alw_step (i := 9) (by kernel_rfl) rfl rfl ?_
                intro K1 HK1
                refine wp_store1U 4 (.tmp 126) (.tmp 125) rfl (HCUR.out.turn HTD.out fun e => e) rfl rfl (by have := HLEN.out; omega) rfl rfl size_bl ?_
                intro w10 hb10 ht10
                have HS10 := Lib.hid (show Blk w10 y 39 #[.slice (some ⟨s, 0, none⟩) N cs, .slice (some ⟨b, 0, none⟩) N cb] ∧ Blk w10 g7 34 #[.int .i64 o.kind, .int .i64 o.member, .bool o.on] from ⟨HSD.out.1.turn ht10 HYS.out, HSD.out.2.turn ht10 HGS.out⟩)
                refine HK1.out _ _ ⟨HS10.out, ?_⟩
                clear HK1
                try simp only [Act.put, List.setIfInBounds_toArray, List.set_cons_zero, List.set_cons_succ]
                refine alw_done rfl ?_
                refine NoPanic.normal ?_
                have HR10 := Lib.hid ((HF9.out.still HTD.out).ry.sign1 (on := o.on) H48.out.x.len HJN.out (HCUR.out.turn HTD.out fun e => e) hb10 (by simp) (set_cells HLEN.out) ht10)
                have HF10 := Lib.hid ((HF9.out.still HTD.out).setb HR10.out ht10)
                have HT10 := Lib.hid (above13 (HT9.out.trans HTD.out fun _ _ e => e) HNS.out ht10)
                clear hb10 ht10
                go_wp2_with fail
                go_meet
                exact ⟨px, pz, y, s, b, yz, sz, bz, l.set (2 * j + 1) o.on, lz, rfl, rfl, rfl, rfl, HF10.out, HT10.out⟩
              · have HC0 := Lib.hid (show ¬ codeM (N : Int) o.member = 0 from by rw [show codeM (N : Int) o.member = 130 from if_neg hM]; decide)
                have hb9 := HBX.out
                rw [show signL 1 N o.member o.on l = l from if_neg hM] at hb9
                have HF9 := Lib.hid (H48.out.setx hb9 HT1.out)
                clear hM hb9
                go_upto_region 35 with fail
                refine wp_region_lit ?_
                refine wpList_run (v := .int .i64 (codeM (N : Int) o.member)) (wanted_none rfl) (exec_move rfl rfl) ?_
                simp only [Act.put, List.setIfInBounds_toArray, List.set_cons_zero, List.set_cons_succ]
                refine wpList_run (v := .bool false) (wanted_none rfl) (ix_eql rfl rfl rfl (decide_eq_false HC0.out)) ?_
                simp only [Act.put, List.setIfInBounds_toArray, List.set_cons_zero, List.set_cons_succ]
                go_wp2_with fail
                go_meet
                exact ⟨px, pz, y, s, b, yz, sz, bz, l, lz, rfl, rfl, rfl, rfl, HF9.out, HT9.out⟩
          · as_aux_lemma =>
              go_upto_region 23 with fail
              refine wp_region_lit ?_
              refine wpList_run (v := .bool false) (wanted_none rfl) (ix_eql rfl rfl rfl (by decide)) ?_
              simp only [Act.put, List.setIfInBounds_toArray, List.set_cons_zero, List.set_cons_succ]
              refine wpList_run (v := .bool false) (wanted_none rfl) (gx_assign rfl rfl) ?_
              simp only [Act.put, List.setIfInBounds_toArray, List.set_cons_zero, List.set_cons_succ]
              go_upto_region 24 with fail
              refine wp_region_lit ?_
              refine wpList_run (v := .bool false) (wanted_none rfl) (ix_eql rfl rfl rfl (by decide)) ?_
              simp only [Act.put, List.setIfInBounds_toArray, List.set_cons_zero, List.set_cons_succ]
              refine wpList_run (v := .bool false) (wanted_none rfl) (gx_assign rfl rfl) ?_
              simp only [Act.put, List.setIfInBounds_toArray, List.set_cons_zero, List.set_cons_succ]
              go_upto_region 30 with fail
              refine wp_region_lit ?_
              refine wpList_run (v := .bool false) (wanted_none rfl) (ix_eql rfl rfl rfl (by decide)) ?_
              simp only [Act.put, List.setIfInBounds_toArray, List.set_cons_zero, List.set_cons_succ]
              refine wpList_run (v := .bool false) (wanted_none rfl) (gx_assign rfl rfl) ?_
              simp only [Act.put, List.setIfInBounds_toArray, List.set_cons_zero, List.set_cons_succ]
              go_upto_region 31 with fail
              refine wp_region_lit ?_
              refine wpList_run (v := .bool true) (wanted_none rfl) (ix_eql rfl rfl rfl (by decide)) ?_
              simp only [Act.put, List.setIfInBounds_toArray, List.set_cons_zero, List.set_cons_succ]
              refine wpList_run (v := .bool true) (wanted_none rfl) (gx_assign rfl rfl) ?_
              simp only [Act.put, List.setIfInBounds_toArray, List.set_cons_zero, List.set_cons_succ]
              go_upto_region 32 with fail
              refine wp_region_lit ?_
              refine wpList_run (v := .pointer (some ⟨px, 0, none⟩)) (wanted_none rfl) (exec_move rfl rfl) ?_
              simp only [Act.put, List.setIfInBounds_toArray, List.set_cons_zero, List.set_cons_succ]
              refine wpList_run (v := .pointer (some ⟨g7, 1, none⟩)) (wanted_none rfl) (exec_field (off := 0) (d := 1) rfl rfl (by kernel_rfl)) ?_
              simp only [Act.put, List.setIfInBounds_toArray, List.set_cons_zero, List.set_cons_succ]
              refine wpList_run (v := .int .i64 o.member) (wanted_none rfl) (exec_load1 rfl rfl (by kernel_rfl) (HB7.out.cell 1)) ?_
              simp only [Act.put, List.setIfInBounds_toArray, List.set_cons_zero, List.set_cons_succ]
              refine wpList_run (v := .pointer (some ⟨g7, 2, none⟩)) (wanted_none rfl) (exec_field (off := 0) (d := 2) rfl rfl (by kernel_rfl)) ?_
              simp only [Act.put, List.setIfInBounds_toArray, List.set_cons_zero, List.set_cons_succ]
              refine wpList_run (v := .bool o.on) (wanted_none rfl) (exec_load1 rfl rfl (by kernel_rfl) (HB7.out.cell 2)) ?_
              simp only [Act.put, List.setIfInBounds_toArray, List.set_cons_zero, List.set_cons_succ]
              refine wpList_op rfl fun K9 HK9 => ?_
              go_wp2_with fail
              refine (Block_walk (m := o.member) (on := o.on) H48.out.x).mono ?_
              rintro e w9 ⟨rfl, hb, ht⟩
              refine HK9.out _ _ ?_
              clear HK9
              try simp only [Act.put, List.setIfInBounds_toArray, List.set_cons_zero, List.set_cons_succ]
              have HBX := Lib.hid hb
              have HT1 := Lib.hid ht
              clear hb ht
              refine wpList_run (v := .int .i64 (codeM (N : Int) o.member)) (wanted_none rfl) (gx_assign rfl rfl) ?_
              simp only [Act.put, List.setIfInBounds_toArray, List.set_cons_zero, List.set_cons_succ]
              go_upto_region 33 with fail
              refine wp_region_lit ?_
              refine wpList_run (v := .int .i64 (codeM (N : Int) o.member)) (wanted_none rfl) (exec_move rfl rfl) ?_
              simp only [Act.put, List.setIfInBounds_toArray, List.set_cons_zero, List.set_cons_succ]
              refine wpList_run (v := .int .i64 (codeM (N : Int) o.member)) (wanted_none rfl) (exec_move rfl rfl) ?_
              simp only [Act.put, List.setIfInBounds_toArray, List.set_cons_zero, List.set_cons_succ]
              refine wpList_run (v := .bool false) (wanted_none rfl) (ix_neq rfl rfl rfl (decide_eq_false (not_not_intro rfl))) ?_
              simp only [Act.put, List.setIfInBounds_toArray, List.set_cons_zero, List.set_cons_succ]
              have HPX := Lib.hid (show w.heap.size ≤ px from H48.out.nw px (List.mem_cons_self ..))
              have HT9 := Lib.hid (above13 HT8.out HPX.out HT1.out)
              by_cases hM : isM (N : Int) o.member
              · have HC0 := Lib.hid (show codeM (N : Int) o.member = 0 from if_pos hM)
                obtain ⟨j, hj⟩ : ∃ j : Nat, o.member = (j : Int) := ⟨o.member.toNat, by have := hM.1; omega⟩
                have HJ := Lib.hid hj
                have HJN := Lib.hid (show j < N from by have := hM.2; omega)
                have HSL := Lib.hid (show signL 1 N o.member o.on l = l.set (2 * j + 1) o.on from by
                  unfold signL
                  rw [if_pos hM, hj]
                  rfl)
                have hb9 := HBX.out
                rw [HSL.out] at hb9
                have HF9 := Lib.hid (H48.out.setx hb9 HT1.out)
                have HB9 := Lib.hid (HB7.out.turn HT1.out (HB7.out.ne_ H48.out.x.blk (by decide)))
                clear hM hj hb9
                go_upto_region 35 with fail
                refine wp_region_lit ?_
                refine wpList_run (v := .int .i64 (codeM (N : Int) o.member)) (wanted_none rfl) (exec_move rfl rfl) ?_
                simp only [Act.put, List.setIfInBounds_toArray, List.set_cons_zero, List.set_cons_succ]
                refine wpList_run (v := .bool true) (wanted_none rfl) (ix_eql rfl rfl rfl (decide_eq_true HC0.out)) ?_
                simp only [Act.put, List.setIfInBounds_toArray, List.set_cons_zero, List.set_cons_succ]
                obtain ⟨cs, cb, hr1, hr2, hr3⟩ := HF9.out.ry.row
                obtain ⟨cur, hcur, hcs, _, _, hnc, _, _⟩ := orw_block hr3
                have HCUR := Lib.hid hcur
                have HLEN := Lib.hid (show j < cur.size from by have := HJN.out; omega)
                have HY9 := Lib.hid hr1
                have HYS := Lib.hid (show y ≠ b from by exact HF9.out.ry.lts.2.2.2.2.1)
                have HGS := Lib.hid (show g7 ≠ b from HB9.out.ne_ hcur (by decide))
                have HNS := Lib.hid (show w.heap.size ≤ b from HF9.out.nw b (by simp))
                clear hr1 hr2 hr3 hcur hcs hnc
                go_upto_region 36 with fail
                refine wp_region_alw (fun W => Blk W y 39 #[.slice (some ⟨s, 0, none⟩) N cs, .slice (some ⟨b, 0, none⟩) N cb] ∧ Blk W g7 34 #[.int .i64 o.kind, .int .i64 o.member, .bool o.on]) (by kernel_rfl) ?_
                have HSD := Lib.hid (show Blk w9.drew y 39 #[.slice (some ⟨s, 0, none⟩) N cs, .slice (some ⟨b, 0, none⟩) N cb] ∧ Blk w9.drew g7 34 #[.int .i64 o.kind, .int .i64 o.member, .bool o.on] from ⟨HY9.out.drew, HB9.out.drew⟩)
                have HTD := Lib.hid ((Turn.refl nowhere w9).drew)
                generalize w9.drew = wd at *
                refine alw_take (i := 0) (v := .pointer (some ⟨y, 0, none⟩)) rfl (by kernel_rfl) (by kernel_rfl) (fun _ _ _ h => h) (.inl ⟨by rfl, fun W hW => exec_move rfl rfl⟩) HSD.out ?_
                simp only [Act.put, List.setIfInBounds_toArray, List.set_cons_zero, List.set_cons_succ]
                refine alw_take (i := 1) (v := .pointer (some ⟨y, 0, none⟩)) rfl (by kernel_rfl) (by kernel_rfl) (fun _ _ _ h => h) (.inl ⟨by rfl, fun W hW => exec_nil rfl rfl⟩) HSD.out ?_
                simp only [Act.put, List.setIfInBounds_toArray, List.set_cons_zero, List.set_cons_succ]
                refine alw_take (i := 2) (v := .pointer (some ⟨y, 1, none⟩)) rfl (by kernel_rfl) (by kernel_rfl) (fun _ _ _ h => h) (.inl ⟨by rfl, fun W hW => exec_field (off := 0) (d := 1) rfl rfl (by kernel_rfl)⟩) HSD.out ?_
                simp only [Act.put, List.setIfInBounds_toArray, List.set_cons_zero, List.set_cons_succ]
                refine alw_take (i := 3) (v := .slice (some ⟨b, 0, none⟩) N cb) rfl (by kernel_rfl) (by kernel_rfl) (fun _ _ _ h => h) (.inl ⟨by rfl, fun W hW => exec_load1 rfl rfl (by kernel_rfl) (hW.1.cell 1)⟩) HSD.out ?_
                simp only [Act.put, List.setIfInBounds_toArray, List.set_cons_zero, List.set_cons_succ]
                refine alw_take (i := 4) (v := .pointer (some ⟨g7, 1, none⟩)) rfl (by kernel_rfl) (by kernel_rfl) (fun _ _ _ h => h) (.inl ⟨by rfl, fun W hW => exec_field (off := 0) (d := 1) rfl rfl (by kernel_rfl)⟩) HSD.out ?_
                simp only [Act.put, List.setIfInBounds_toArray, List.set_cons_zero, List.set_cons_succ]
                refine alw_take (i := 5) (v := .int .i64 o.member) rfl (by kernel_rfl) (by kernel_rfl) (fun _ _ _ h => h) (.inl ⟨by rfl, fun W hW => exec_load1 rfl rfl (by kernel_rfl) (hW.2.cell 1)⟩) HSD.out ?_
                simp only [Act.put, List.setIfInBounds_toArray, List.set_cons_zero, List.set_cons_succ]
                refine alw_take (i := 6) (v := .pointer (some ⟨g7, 2, none⟩)) rfl (by kernel_rfl) (by kernel_rfl) (fun _ _ _ h => h) (.inl ⟨by rfl, fun W hW => exec_field (off := 0) (d := 2) rfl rfl (by kernel_rfl)⟩) HSD.out ?_
                simp only [Act.put, List.setIfInBounds_toArray, List.set_cons_zero, List.set_cons_succ]
                refine alw_take (i := 7) (v := .bool o.on) rfl (by kernel_rfl) (by kernel_rfl) (fun _ _ _ h => h) (.inl ⟨by rfl, fun W hW => exec_load1 rfl rfl (by kernel_rfl) (hW.2.cell 2)⟩) HSD.out ?_
                simp only [Act.put, List.setIfInBounds_toArray, List.set_cons_zero, List.set_cons_succ]
                refine alw_take (i := 8) (v := .pointer (some ⟨b, 0 + j * 1, none⟩)) rfl (by kernel_rfl) (by kernel_rfl) (fun _ _ _ h => h) (.inl ⟨by rfl, fun W hW => gx_iaddr (i := j) (sz := 1) rfl rfl (by rw [← HJ.out]; rfl) Tryz.underlying37 size_bl HJN.out rfl⟩) HSD.out ?_
                simp only [Act.put, List.setIfInBounds_toArray, List.set_cons_zero, List.set_cons_succ]
                refine alw_step (i := 9) (by kernel_rfl) rfl rfl ?_
                intro K1 HK1
                refine wp_store1U 4 (.tmp 126) (.tmp 125) rfl (HCUR.out.turn HTD.out fun e => e) rfl rfl (by have := HLEN.out; omega) rfl rfl size_bl ?_
                intro w10 hb10 ht10
                have HS10 := Lib.hid (show Blk w10 y 39 #[.slice (some ⟨s, 0, none⟩) N cs, .slice (some ⟨b, 0, none⟩) N cb] ∧ Blk w10 g7 34 #[.int .i64 o.kind, .int .i64 o.member, .bool o.on] from ⟨HSD.out.1.turn ht10 HYS.out, HSD.out.2.turn ht10 HGS.out⟩)
                refine HK1.out _ _ ⟨HS10.out, ?_⟩
                clear HK1
                try simp only [Act.put, List.setIfInBounds_toArray, List.set_cons_zero, List.set_cons_succ]
                refine alw_done rfl ?_
                refine NoPanic.normal ?_
                have HR10 := Lib.hid ((HF9.out.still HTD.out).ry.sign1 (on := o.on) H48.out.x.len HJN.out (HCUR.out.turn HTD.out fun e => e) hb10 (by simp) (set_cells HLEN.out) ht10)
                have HF10 := Lib.hid ((HF9.out.still HTD.out).setb HR10.out ht10)
                have HT10 := Lib.hid (above13 (HT9.out.trans HTD.out fun _ _ e => e) HNS.out ht10)
                clear hb10 ht10
                go_wp2_with fail
                go_meet
                exact ⟨px, pz, y, s, b, yz, sz, bz, l.set (2 * j + 1) o.on, lz, rfl, rfl, rfl, rfl, HF10.out, HT10.out⟩
              · have HC0 := Lib.hid (show ¬ codeM (N : Int) o.member = 0 from by rw [show codeM (N : Int) o.member = 130 from if_neg hM]; decide)
                have hb9 := HBX.out
                rw [show signL 1 N o.member o.on l = l from if_neg hM] at hb9
                have HF9 := Lib.hid (H48.out.setx hb9 HT1.out)
                clear hM hb9
                go_upto_region 35 with fail
                refine wp_region_lit ?_
                refine wpList_run (v := .int .i64 (codeM (N : Int) o.member)) (wanted_none rfl) (exec_move rfl rfl) ?_
                simp only [Act.put, List.setIfInBounds_toArray, List.set_cons_zero, List.set_cons_succ]
                refine wpList_run (v := .bool false) (wanted_none rfl) (ix_eql rfl rfl rfl (decide_eq_false HC0.out)) ?_
                simp only [Act.put, List.setIfInBounds_toArray, List.set_cons_zero, List.set_cons_succ]
                go_wp2_with fail
                go_meet
                exact ⟨px, pz, y, s, b, yz, sz, bz, l, lz, rfl, rfl, rfl, rfl, HF9.out, HT9.out⟩
          · as_aux_lemma =>
              go_upto_region 23 with fail
              refine wp_region_lit ?_
              refine wpList_run (v := .bool false) (wanted_none rfl) (ix_eql rfl rfl rfl (by decide)) ?_
              simp only [Act.put, List.setIfInBounds_toArray, List.set_cons_zero, List.set_cons_succ]
              refine wpList_run (v := .bool false) (wanted_none rfl) (gx_assign rfl rfl) ?_
              simp only [Act.put, List.setIfInBounds_toArray, List.set_cons_zero, List.set_cons_succ]
              go_upto_region 24 with fail
              refine wp_region_lit ?_
              refine wpList_run (v := .bool false) (wanted_none rfl) (ix_eql rfl rfl rfl (by decide)) ?_
              simp only [Act.put, List.setIfInBounds_toArray, List.set_cons_zero, List.set_cons_succ]
              refine wpList_run (v := .bool false) (wanted_none rfl) (gx_assign rfl rfl) ?_
              simp only [Act.put, List.setIfInBounds_toArray, List.set_cons_zero, List.set_cons_succ]
              go_upto_region 30 with fail
              refine wp_region_lit ?_
              refine wpList_run (v := .bool false) (wanted_none rfl) (ix_eql rfl rfl rfl (by decide)) ?_
              simp only [Act.put, List.setIfInBounds_toArray, List.set_cons_zero, List.set_cons_succ]
              refine wpList_run (v := .bool false) (wanted_none rfl) (gx_assign rfl rfl) ?_
              simp only [Act.put, List.setIfInBounds_toArray, List.set_cons_zero, List.set_cons_succ]
              go_upto_region 31 with fail
              refine wp_region_lit ?_
              refine wpList_run (v := .bool false) (wanted_none rfl) (ix_eql rfl rfl rfl (by decide)) ?_
              simp only [Act.put, List.setIfInBounds_toArray, List.set_cons_zero, List.set_cons_succ]
              refine wpList_run (v := .bool false) (wanted_none rfl) (gx_assign rfl rfl) ?_
              simp only [Act.put, List.setIfInBounds_toArray, List.set_cons_zero, List.set_cons_succ]
              go_upto_region 37 with fail
              refine wp_region_lit ?_
              refine wpList_run (v := .bool true) (wanted_none rfl) (ix_eql rfl rfl rfl (by decide)) ?_
              simp only [Act.put, List.setIfInBounds_toArray, List.set_cons_zero, List.set_cons_succ]
              refine wpList_run (v := .bool true) (wanted_none rfl) (gx_assign rfl rfl) ?_
              simp only [Act.put, List.setIfInBounds_toArray, List.set_cons_zero, List.set_cons_succ]
              go_upto_region 38 with fail
              refine wp_region_lit ?_
              refine wpList_run (v := .pointer (some ⟨px, 0, none⟩)) (wanted_none rfl) (exec_move rfl rfl) ?_
              simp only [Act.put, List.setIfInBounds_toArray, List.set_cons_zero, List.set_cons_succ]
              refine wpList_op rfl fun K9 HK9 => ?_
              go_wp2_with fail
              refine (Reset_walk H48.out.x).mono ?_
              rintro e w9 ⟨⟨v, rfl⟩, hb, ht⟩
              refine HK9.out _ _ ?_
              clear HK9
              try simp only [Act.put, List.setIfInBounds_toArray, List.set_cons_zero, List.set_cons_succ]
              have HPX := Lib.hid (show w.heap.size ≤ px from H48.out.nw px (List.mem_cons_self ..))
              have HT9 := Lib.hid (above13 HT8.out HPX.out ht)
              have HF9 := Lib.hid (H48.out.setx hb ht)
              clear hb ht
              go_upto_region 39 with fail
              refine wp_region_lit ?_
              refine wpList_run (v := .pointer (some ⟨y, 0, none⟩)) (wanted_none rfl) (exec_move rfl rfl) ?_
              simp only [Act.put, List.setIfInBounds_toArray, List.set_cons_zero, List.set_cons_succ]
              refine wpList_op rfl fun K9 HK9 => ?_
              go_wp2_with fail
              refine (rReset_walk HF9.out.ry).mono ?_
              rintro e w10 ⟨⟨v2, rfl⟩, s1, hb, hs, ht⟩
              refine HK9.out _ _ ?_
              clear HK9
              try simp only [Act.put, List.setIfInBounds_toArray, List.set_cons_zero, List.set_cons_succ]
              have HPY := Lib.hid (show w.heap.size ≤ y from HF9.out.nw y (by simp))
              have HT10 := Lib.hid (above13 HT9.out HPY.out ht)
              have HF10 := Lib.hid (HF9.out.sety HT9.out.size hb hs ht)
              clear hb hs ht
              go_wp2_with fail
              go_meet
              exact ⟨px, pz, y, s1, b, yz, sz, bz, resetL 6 l, lz, rfl, rfl, rfl, rfl, HF10.out, HT10.out⟩
          · as_aux_lemma =>
              go_upto_region 23 with fail
              refine wp_region_lit ?_
              refine wpList_run (v := .bool false) (wanted_none rfl) (ix_eql rfl rfl rfl (by decide)) ?_
              simp only [Act.put, List.setIfInBounds_toArray, List.set_cons_zero, List.set_cons_succ]
              refine wpList_run (v := .bool false) (wanted_none rfl) (gx_assign rfl rfl) ?_
              simp only [Act.put, List.setIfInBounds_toArray, List.set_cons_zero, List.set_cons_succ]
              go_upto_region 24 with fail
              refine wp_region_lit ?_
              refine wpList_run (v := .bool false) (wanted_none rfl) (ix_eql rfl rfl rfl (by decide)) ?_
              simp only [Act.put, List.setIfInBounds_toArray, List.set_cons_zero, List.set_cons_succ]
              refine wpList_run (v := .bool false) (wanted_none rfl) (gx_assign rfl rfl) ?_
              simp only [Act.put, List.setIfInBounds_toArray, List.set_cons_zero, List.set_cons_succ]
              go_upto_region 30 with fail
              refine wp_region_lit ?_
              refine wpList_run (v := .bool false) (wanted_none rfl) (ix_eql rfl rfl rfl (by decide)) ?_
              simp only [Act.put, List.setIfInBounds_toArray, List.set_cons_zero, List.set_cons_succ]
              refine wpList_run (v := .bool false) (wanted_none rfl) (gx_assign rfl rfl) ?_
              simp only [Act.put, List.setIfInBounds_toArray, List.set_cons_zero, List.set_cons_succ]
              go_upto_region 31 with fail
              refine wp_region_lit ?_
              refine wpList_run (v := .bool false) (wanted_none rfl) (ix_eql rfl rfl rfl (by decide)) ?_
              simp only [Act.put, List.setIfInBounds_toArray, List.set_cons_zero, List.set_cons_succ]
              refine wpList_run (v := .bool false) (wanted_none rfl) (gx_assign rfl rfl) ?_
              simp only [Act.put, List.setIfInBounds_toArray, List.set_cons_zero, List.set_cons_succ]
              go_upto_region 37 with fail
              refine wp_region_lit ?_
              refine wpList_run (v := .bool false) (wanted_none rfl) (ix_eql rfl rfl rfl (by decide)) ?_
              simp only [Act.put, List.setIfInBounds_toArray, List.set_cons_zero, List.set_cons_succ]
              refine wpList_run (v := .bool false) (wanted_none rfl) (gx_assign rfl rfl) ?_
              simp only [Act.put, List.setIfInBounds_toArray, List.set_cons_zero, List.set_cons_succ]
              go_upto_region 40 with fail
              refine wp_region_lit ?_
              refine wpList_run (v := .bool true) (wanted_none rfl) (ix_eql rfl rfl rfl (by decide)) ?_
              simp only [Act.put, List.setIfInBounds_toArray, List.set_cons_zero, List.set_cons_succ]
              refine wpList_run (v := .bool true) (wanted_none rfl) (gx_assign rfl rfl) ?_
              simp only [Act.put, List.setIfInBounds_toArray, List.set_cons_zero, List.set_cons_succ]
              go_upto_region 41 with fail
              refine wp_region_lit ?_
              refine wpList_run (v := .pointer (some ⟨px, 0, none⟩)) (wanted_none rfl) (exec_move rfl rfl) ?_
              simp only [Act.put, List.setIfInBounds_toArray, List.set_cons_zero, List.set_cons_succ]
              refine wpList_run (v := .pointer (some ⟨px, 0, none⟩)) (wanted_none rfl) (gx_assign rfl rfl) ?_
              simp only [Act.put, List.setIfInBounds_toArray, List.set_cons_zero, List.set_cons_succ]
              go_upto_region 42 with fail
              refine wp_region_lit ?_
              refine wpList_run (v := .pointer (some ⟨px, 0, none⟩)) (wanted_none rfl) (exec_move rfl rfl) ?_
              simp only [Act.put, List.setIfInBounds_toArray, List.set_cons_zero, List.set_cons_succ]
              refine wpList_op rfl fun K9 HK9 => ?_
              go_wp2_with fail
              refine (Clone_walk H48.out.x).mono ?_
              rintro e w9 ⟨qx, rfl, hb, hq, ht⟩
              refine HK9.out _ _ ?_
              clear HK9
              try simp only [Act.put, List.setIfInBounds_toArray, List.set_cons_zero, List.set_cons_succ]
              have HX9 := Lib.hid hb
              have HQ9 := Lib.hid hq
              have HT9 := Lib.hid ht
              clear hb hq ht
              refine wpList_run (v := .pointer (some ⟨qx, 0, none⟩)) (wanted_none rfl) (gx_assign rfl rfl) ?_
              simp only [Act.put, List.setIfInBounds_toArray, List.set_cons_zero, List.set_cons_succ]
              go_upto_region 43 with fail
              refine wp_region_lit ?_
              refine wpList_run (v := .pointer (some ⟨y, 0, none⟩)) (wanted_none rfl) (exec_move rfl rfl) ?_
              simp only [Act.put, List.setIfInBounds_toArray, List.set_cons_zero, List.set_cons_succ]
              refine wpList_run (v := .pointer (some ⟨y, 0, none⟩)) (wanted_none rfl) (gx_assign rfl rfl) ?_
              simp only [Act.put, List.setIfInBounds_toArray, List.set_cons_zero, List.set_cons_succ]
              go_upto_region 44 with fail
              refine wp_region_lit ?_
              refine wpList_run (v := .pointer (some ⟨y, 0, none⟩)) (wanted_none rfl) (exec_move rfl rfl) ?_
              simp only [Act.put, List.setIfInBounds_toArray, List.set_cons_zero, List.set_cons_succ]
              refine wpList_op rfl fun K9 HK9 => ?_
              go_wp2_with fail
              refine (rClone_walk (H48.out.ry.still HT9.out)).mono ?_
              rintro e w10 ⟨y2, s2, b2, rfl, hr, h1, h2, h3, ht⟩
              refine HK9.out _ _ ?_
              clear HK9
              try simp only [Act.put, List.setIfInBounds_toArray, List.set_cons_zero, List.set_cons_succ]
              have HF10 := Lib.hid (H48.out.clone HT8.out.size HX9.out HQ9.out HT9.out hr h1 h2 h3 ht)
              have HT10 := Lib.hid ((HT8.out.trans HT9.out fun _ _ e => e).trans ht fun _ _ e => e)
              clear hr h1 h2 h3 ht
              refine wpList_run (v := .pointer (some ⟨y2, 0, none⟩)) (wanted_none rfl) (gx_assign rfl rfl) ?_
              simp only [Act.put, List.setIfInBounds_toArray, List.set_cons_zero, List.set_cons_succ]
              go_upto_region 45 with fail
              refine wp_region_lit ?_
              refine wpList_run (v := .pointer (some ⟨qx, 0, none⟩)) (wanted_none rfl) (exec_move rfl rfl) ?_
              simp only [Act.put, List.setIfInBounds_toArray, List.set_cons_zero, List.set_cons_succ]
              refine wpList_run (v := .bool false) (wanted_none rfl) (ptr_someB rfl rfl rfl rfl) ?_
              simp only [Act.put, List.setIfInBounds_toArray, List.set_cons_zero, List.set_cons_succ]
              go_wp2_with fail
              go_meet
              exact ⟨qx, px, y2, s2, b2, y, s, b, l, l, rfl, rfl, rfl, rfl, HF10.out, HT10.out⟩
        clear H48 HB7 HT8
        obtain ⟨px, pz, y, s, b, yz, sz, bz, l, lz, rfl, rfl, rfl, rfl, h4, htr⟩ := hcut
        have H49 := Lib.hid h4
        have HT9 := Lib.hid htr
        clear h4 htr
        generalize hw9 : wc = w9 at *
        clear hw9
        go_upto_region 47 with fail
        refine wp_region_lit ?_
        refine wpList_run (v := .pointer (some ⟨px, 0, none⟩)) (wanted_none rfl) (exec_move rfl rfl) ?_
        simp only [Act.put, List.setIfInBounds_toArray, List.set_cons_zero, List.set_cons_succ]
        refine wpList_run (v := .pointer (some ⟨y, 0, none⟩)) (wanted_none rfl) (exec_move rfl rfl) ?_
        simp only [Act.put, List.setIfInBounds_toArray, List.set_cons_zero, List.set_cons_succ]
        refine wpList_op rfl fun K9 HK9 => ?_
        go_wp2_with fail
        refine (blike_walk H49.out.x H49.out.ry).mono ?_
        rintro e w10 ⟨rfl, ht⟩
        refine HK9.out _ _ ?_
        clear HK9
        try simp only [Act.put, List.setIfInBounds_toArray, List.set_cons_zero, List.set_cons_succ]
        have H410 := Lib.hid (H49.out.still ht)
        have HT10 := Lib.hid (HT9.out.trans ht fun _ _ e => e)
        clear ht H49 HT9
        refine wpList_run (v := .bool true) (wanted_none rfl) (gx_assign rfl rfl) ?_
        simp only [Act.put, List.setIfInBounds_toArray, List.set_cons_zero, List.set_cons_succ]
        go_upto_region 48 with fail
        refine wp_region_lit ?_
        refine wpList_run (v := .pointer (some ⟨pz, 0, none⟩)) (wanted_none rfl) (exec_move rfl rfl) ?_
        simp only [Act.put, List.setIfInBounds_toArray, List.set_cons_zero, List.set_cons_succ]
        refine wpList_run (v := .pointer (some ⟨yz, 0, none⟩)) (wanted_none rfl) (exec_move rfl rfl) ?_
        simp only [Act.put, List.setIfInBounds_toArray, List.set_cons_zero, List.set_cons_succ]
        refine wpList_op rfl fun K9 HK9 => ?_
        go_wp2_with fail
        refine (blike_walk H410.out.z H410.out.rz).mono ?_
        rintro e w11 ⟨rfl, ht⟩
        refine HK9.out _ _ ?_
        clear HK9
        try simp only [Act.put, List.setIfInBounds_toArray, List.set_cons_zero, List.set_cons_succ]
        have H411 := Lib.hid (H410.out.still ht)
        have HT11 := Lib.hid (HT10.out.trans ht fun _ _ e => e)
        clear ht H410 HT10
        refine wpList_run (v := .bool true) (wanted_none rfl) (gx_assign rfl rfl) ?_
        simp only [Act.put, List.setIfInBounds_toArray, List.set_cons_zero, List.set_cons_succ]
        go_upto_region 49 with fail
        refine wp_region_lit ?_
        refine wpList_run (v := .bool true) (wanted_none rfl) (exec_move rfl rfl) ?_
        simp only [Act.put, List.setIfInBounds_toArray, List.set_cons_zero, List.set_cons_succ]
        refine wpList_run (v := .bool false) (wanted_none rfl) (ix_not (b := true) rfl rfl) ?_
        simp only [Act.put, List.setIfInBounds_toArray, List.set_cons_zero, List.set_cons_succ]
        refine wpList_run (v := .bool false) (wanted_none rfl) (exec_move rfl rfl) ?_
        simp only [Act.put, List.setIfInBounds_toArray, List.set_cons_zero, List.set_cons_succ]
        refine wpList_run (v := .bool true) rfl (exec_move rfl rfl) ?_
        simp only [Act.put, List.setIfInBounds_toArray, List.set_cons_zero, List.set_cons_succ]
        refine wpList_run (v := .bool false) rfl (ix_not (b := true) rfl rfl) ?_
        simp only [Act.put, List.setIfInBounds_toArray, List.set_cons_zero, List.set_cons_succ]
        refine wpList_run (v := .bool false) (wanted_none rfl) (ix_pickF rfl rfl rfl) ?_
        simp only [Act.put, List.setIfInBounds_toArray, List.set_cons_zero, List.set_cons_succ]
        go_upto_region 14 with fail
        refine wp_region_lit ?_
        refine wpList_run (v := .int .i64 (i : Int)) (wanted_none rfl) (exec_move rfl rfl) ?_
        simp only [Act.put, List.setIfInBounds_toArray, List.set_cons_zero, List.set_cons_succ]
        refine wpList_run (v := .int .i64 ((i + 1 : Nat) : Int)) (wanted_none rfl) (ix_add rfl rfl rfl (by omega) (by omega)) ?_
        simp only [Act.put, List.setIfInBounds_toArray, List.set_cons_zero, List.set_cons_succ]
        refine wpList_run (v := .int .i64 ((i + 1 : Nat) : Int)) (wanted_none rfl) (gx_assign rfl rfl) ?_
        simp only [Act.put, List.setIfInBounds_toArray, List.set_cons_zero, List.set_cons_succ]
        go_wp2_with fail
        go_roundg (gk - 1)
        case measure => have := HGK.out; have := HLT.out; omega
        case rel => exact ⟨i + 1, px, pz, y, s, b, yz, sz, bz, l, lz, by go_num, rfl, rfl, rfl, rfl, by have := HGK.out; have := HLT.out; omega, H411.out, HT11.out⟩
      · have y3 : (i : Int) < (n : Int) := by omega
        have y4 : ¬ (i : Int) < 100 := by omega
        clear hlt h100
        go_upto_region 13 with fail
        refine wp_region_lit ?_
        refine wpList_run (v := .int .i64 (i : Int)) (wanted_none rfl) (exec_move rfl rfl) ?_
        simp only [Act.put, List.setIfInBounds_toArray, List.set_cons_zero, List.set_cons_succ]
        refine wpList_run (v := .slice A n c) (wanted_none rfl) (exec_move rfl rfl) ?_
        simp only [Act.put, List.setIfInBounds_toArray, List.set_cons_zero, List.set_cons_succ]
        refine wpList_run (v := .int .i64 (n : Int)) (wanted_none rfl) (gx_len rfl rfl Tryz.underlying22) ?_
        simp only [Act.put, List.setIfInBounds_toArray, List.set_cons_zero, List.set_cons_succ]
        refine wpList_run (v := .bool true) (wanted_none rfl) (ix_lss rfl rfl rfl (decide_eq_true y3)) ?_
        simp only [Act.put, List.setIfInBounds_toArray, List.set_cons_zero, List.set_cons_succ]
        refine wpList_run (v := .bool true) (wanted_none rfl) (exec_move rfl rfl) ?_
        simp only [Act.put, List.setIfInBounds_toArray, List.set_cons_zero, List.set_cons_succ]
        refine wpList_run (v := .int .i64 (i : Int)) rfl (exec_move rfl rfl) ?_
        simp only [Act.put, List.setIfInBounds_toArray, List.set_cons_zero, List.set_cons_succ]
        refine wpList_run (v := .bool false) rfl (ix_lss rfl rfl rfl (decide_eq_false y4)) ?_
        simp only [Act.put, List.setIfInBounds_toArray, List.set_cons_zero, List.set_cons_succ]
        refine wpList_run (v := .bool false) (wanted_none rfl) (ix_pickT rfl rfl rfl) ?_
        simp only [Act.put, List.setIfInBounds_toArray, List.set_cons_zero, List.set_cons_succ]
        go_upto_region 51 with fail
        refine wp_region_lit ?_
        refine wpList_run (v := .bool true) (wanted_none rfl) (gx_assign rfl rfl) ?_
        simp only [Act.put, List.setIfInBounds_toArray, List.set_cons_zero, List.set_cons_succ]
        go_wp2_with fail
        go_ret
        exact ⟨rfl, HTR.out⟩
    · have y3 : ¬ (i : Int) < (n : Int) := by omega
      clear hlt
      go_upto_region 13 with fail
      first
      | (rename_i K9 hK9; have HKC := Lib.hid hK9; clear hK9)
      | (rename_i K9 hK9 K8; have HKC := Lib.hid hK9; clear hK9)
      refine wp_region_lit ?_
      refine wpList_run (v := .int .i64 (i : Int)) (wanted_none rfl) (exec_move rfl rfl) ?_
      simp only [Act.put, List.setIfInBounds_toArray, List.set_cons_zero, List.set_cons_succ]
      refine wpList_run (v := .slice A n c) (wanted_none rfl) (exec_move rfl rfl) ?_
      simp only [Act.put, List.setIfInBounds_toArray, List.set_cons_zero, List.set_cons_succ]
      refine wpList_run (v := .int .i64 (n : Int)) (wanted_none rfl) (gx_len rfl rfl Tryz.underlying22) ?_
      simp only [Act.put, List.setIfInBounds_toArray, List.set_cons_zero, List.set_cons_succ]
      refine wpList_run (v := .bool false) (wanted_none rfl) (ix_lss rfl rfl rfl (decide_eq_false y3)) ?_
      simp only [Act.put, List.setIfInBounds_toArray, List.set_cons_zero, List.set_cons_succ]
      refine wpList_run (v := .bool false) (wanted_none rfl) (exec_move rfl rfl) ?_
      simp only [Act.put, List.setIfInBounds_toArray, List.set_cons_zero, List.set_cons_succ]
      go_wp2_with fail
      refine HKC.out _ _ ?_
      clear HKC
      go_upto_region 51 with fail
      refine wp_region_lit ?_
      refine wpList_run (v := .bool true) (wanted_none rfl) (gx_assign rfl rfl) ?_
      simp only [Act.put, List.setIfInBounds_toArray, List.set_cons_zero, List.set_cons_succ]
      go_wp2_with fail
      go_ret
      exact ⟨rfl, HTR.out⟩
  · have HOK := Lib.hid hok
    clear hok
    go_upto_region 2 with fail
    refine wp_region_lit ?_
    refine wpList_run (v := .int .i64 m) (wanted_none rfl) (exec_move rfl rfl) ?_
    simp only [Act.put, List.setIfInBounds_toArray, List.set_cons_zero, List.set_cons_succ]
    refine wpList_op rfl fun K9 HK9 => ?_
    go_wp2_with fail
    refine (New_no w1 HOK.out HM.out).mono ?_
    rintro e w2 ⟨rfl, ht⟩
    refine HK9.out _ _ ?_
    clear HK9
    try simp only [Act.put, List.setIfInBounds_toArray, List.set_cons_zero, List.set_cons_succ]
    have HT2 := Lib.hid (HT1.out.trans ht fun _ _ e => e)
    clear ht
    refine wpList_run (v := .tuple #[.pointer none, .int .i64 130]) (wanted_none rfl) (exec_move rfl rfl) ?_
    simp only [Act.put, List.setIfInBounds_toArray, List.set_cons_zero, List.set_cons_succ]
    refine wpList_run (v := .pointer none) (wanted_none rfl) (ix_extract rfl rfl rfl) ?_
    simp only [Act.put, List.setIfInBounds_toArray, List.set_cons_zero, List.set_cons_succ]
    refine wpList_run (v := .int .i64 130) (wanted_none rfl) (ix_extract rfl rfl rfl) ?_
    simp only [Act.put, List.setIfInBounds_toArray, List.set_cons_zero, List.set_cons_succ]
    refine wpList_run (v := .pointer none) (wanted_none rfl) (gx_assign rfl rfl) ?_
    simp only [Act.put, List.setIfInBounds_toArray, List.set_cons_zero, List.set_cons_succ]
    refine wpList_run (v := .int .i64 130) (wanted_none rfl) (gx_assign rfl rfl) ?_
    simp only [Act.put, List.setIfInBounds_toArray, List.set_cons_zero, List.set_cons_succ]
    go_upto_region 3 with fail
    refine wp_region_lit ?_
    refine wpList_run (v := .int .i64 m) (wanted_none rfl) (exec_move rfl rfl) ?_
    simp only [Act.put, List.setIfInBounds_toArray, List.set_cons_zero, List.set_cons_succ]
    refine wpList_op rfl fun K9 HK9 => ?_
    go_wp2_with fail
    refine (rNew_no w2 HOK.out).mono ?_
    rintro e w3 ⟨rfl, ht⟩
    refine HK9.out _ _ ?_
    clear HK9
    try simp only [Act.put, List.setIfInBounds_toArray, List.set_cons_zero, List.set_cons_succ]
    have HT3 := Lib.hid (HT2.out.trans ht fun _ _ e => e)
    clear ht
    refine wpList_run (v := .tuple #[.pointer none, .int .i64 130]) (wanted_none rfl) (exec_move rfl rfl) ?_
    simp only [Act.put, List.setIfInBounds_toArray, List.set_cons_zero, List.set_cons_succ]
    refine wpList_run (v := .pointer none) (wanted_none rfl) (ix_extract rfl rfl rfl) ?_
    simp only [Act.put, List.setIfInBounds_toArray, List.set_cons_zero, List.set_cons_succ]
    refine wpList_run (v := .int .i64 130) (wanted_none rfl) (ix_extract rfl rfl rfl) ?_
    simp only [Act.put, List.setIfInBounds_toArray, List.set_cons_zero, List.set_cons_succ]
    refine wpList_run (v := .pointer none) (wanted_none rfl) (gx_assign rfl rfl) ?_
    simp only [Act.put, List.setIfInBounds_toArray, List.set_cons_zero, List.set_cons_succ]
    refine wpList_run (v := .int .i64 130) (wanted_none rfl) (gx_assign rfl rfl) ?_
    simp only [Act.put, List.setIfInBounds_toArray, List.set_cons_zero, List.set_cons_succ]
    go_upto_region 4 with fail
    refine wp_region_lit ?_
    refine wpList_run (v := .bool true) (wanted_none rfl) (exec_move rfl rfl) ?_
    simp only [Act.put, List.setIfInBounds_toArray, List.set_cons_zero, List.set_cons_succ]
    refine wpList_run (v := .bool false) (wanted_none rfl) (ix_not (b := true) rfl rfl) ?_
    simp only [Act.put, List.setIfInBounds_toArray, List.set_cons_zero, List.set_cons_succ]
    refine wpList_run (v := .bool false) (wanted_none rfl) (exec_move rfl rfl) ?_
    simp only [Act.put, List.setIfInBounds_toArray, List.set_cons_zero, List.set_cons_succ]
    refine wpList_run (v := .int .i64 130) rfl (exec_move rfl rfl) ?_
    simp only [Act.put, List.setIfInBounds_toArray, List.set_cons_zero, List.set_cons_succ]
    refine wpList_run (v := .int .i64 130) rfl (exec_move rfl rfl) ?_
    simp only [Act.put, List.setIfInBounds_toArray, List.set_cons_zero, List.set_cons_succ]
    refine wpList_run (v := .bool false) rfl (ix_neq rfl rfl rfl (by decide)) ?_
    simp only [Act.put, List.setIfInBounds_toArray, List.set_cons_zero, List.set_cons_succ]
    refine wpList_run (v := .bool false) (wanted_none rfl) (ix_pickF rfl rfl rfl) ?_
    simp only [Act.put, List.setIfInBounds_toArray, List.set_cons_zero, List.set_cons_succ]
    refine wpList_run (v := .bool false) (wanted_none rfl) (exec_move rfl rfl) ?_
    simp only [Act.put, List.setIfInBounds_toArray, List.set_cons_zero, List.set_cons_succ]
    refine wpList_run (v := .pointer none) rfl (exec_move rfl rfl) ?_
    simp only [Act.put, List.setIfInBounds_toArray, List.set_cons_zero, List.set_cons_succ]
    refine wpList_run (v := .bool true) rfl (ptr_nilB rfl rfl rfl rfl) ?_
    simp only [Act.put, List.setIfInBounds_toArray, List.set_cons_zero, List.set_cons_succ]
    refine wpList_run (v := .pointer none) rfl (exec_move rfl rfl) ?_
    simp only [Act.put, List.setIfInBounds_toArray, List.set_cons_zero, List.set_cons_succ]
    refine wpList_run (v := .bool true) rfl (ptr_nil13 rfl rfl rfl rfl) ?_
    simp only [Act.put, List.setIfInBounds_toArray, List.set_cons_zero, List.set_cons_succ]
    refine wpList_run (v := .bool false) rfl (neb_same rfl rfl rfl rfl) ?_
    simp only [Act.put, List.setIfInBounds_toArray, List.set_cons_zero, List.set_cons_succ]
    refine wpList_run (v := .bool false) (wanted_none rfl) (ix_pickF rfl rfl rfl) ?_
    simp only [Act.put, List.setIfInBounds_toArray, List.set_cons_zero, List.set_cons_succ]
    go_upto_region 6 with fail
    refine wp_region_lit ?_
    refine wpList_run (v := .pointer none) (wanted_none rfl) (exec_move rfl rfl) ?_
    simp only [Act.put, List.setIfInBounds_toArray, List.set_cons_zero, List.set_cons_succ]
    refine wpList_run (v := .bool true) (wanted_none rfl) (ptr_nil13 rfl rfl rfl rfl) ?_
    simp only [Act.put, List.setIfInBounds_toArray, List.set_cons_zero, List.set_cons_succ]
    go_upto_region 7 with fail
    refine wp_region_lit ?_
    refine wpList_run (v := .bool true) (wanted_none rfl) (gx_assign rfl rfl) ?_
    simp only [Act.put, List.setIfInBounds_toArray, List.set_cons_zero, List.set_cons_succ]
    go_wp2_with fail
    go_ret
    exact ⟨rfl, HT3.out⟩
end Go.Proofs.YtfnillibngijaaaGreatDoor
