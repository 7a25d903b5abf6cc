/-
  Texts in one file: Grd Gnl Gno ShA. Conditions: the tables and the errors read as the program's text lays them.
-/
import Derived.Test.YtfnillibngijaaaGreatDoorJB1
import Derived.Test.YtfnillibngijaaaGreatDoorJB0
import Derived.Laws.EntriesVeiled
import Derived.Laws.IdiomStrings
import Derived.Laws.Strings
import Derived.Laws.Slices
import Derived.Laws.Concat
import Derived.Laws.Strings3
import Derived.Deep.Cut
import Derived.Deep.DeepCutAuto
import Derived.Deep.CutRange
import Derived.Deep.LoopGhost
import Derived.WalkSmall
import Derived.Deep.QuietTactic
import Derived.BigQuiet
import Derived.StillTailTactics
import Derived.Laws.Bits64
import Derived.Laws.ResultCell
namespace Go.Proofs.YtfnillibngijaaaGreatDoor
open Go.RowKit
set_option linter.unusedVariables false
set_option linter.unusedSimpArgs false
section
variable {P : Program} {st et : TypeId} {k by_ : Nat} {z : Value}
/-- clear of a part of a block -/
theorem run_clearK (E : Elm P st et k by_ z) (hv : ∀ w, (zeroValue et).run P w = .ok z w) (h1 : ∀ u ∈ z.cells.toList, u.oneCell' = true) {ty : TypeId} {w : World} {b o n c : Nat} {cur : Array Value} (hb : Blk w b et cur) (hfit : o + n * k ≤ cur.size) :
    ∃ w', (Builtin.clear_ #[st] ty #[.slice (some ⟨b, o, none⟩) n c]).run P w = .ok (.tuple #[]) w' ∧ Turn (only b) w w' ∧ ∃ cur', Blk w' b et cur' ∧ cur'.size = cur.size ∧ cur'.toList.take o = cur.toList.take o := by
  have hzl : (Builtin.zeroCells z.cells n).toList.length = n * k := by
    rw [Array.length_toList, size_zeroCells, E.zsz]
  have hz1 : ∀ u ∈ (Builtin.zeroCells z.cells n).toList, u.oneCell' = true := by
    intro u hu
    unfold Builtin.zeroCells at hu
    simp only [Array.toList_map, List.mem_map] at hu
    obtain ⟨q, hq, rfl⟩ := hu
    have hk := E.pos
    have hlt : q % z.cells.size < z.cells.size := Nat.mod_lt _ (by rw [E.zsz]; exact hk)
    rw [getElem!_pos z.cells _ hlt]
    exact h1 _ (by rw [← Array.getElem_toList]; exact List.getElem_mem _)
  have hst := run_storeCells_at (P := P) b o et (Builtin.zeroCells z.cells n).toList 0 cur w hb (by rw [hzl]; omega) hz1
  simp only [Nat.add_zero] at hst
  rcases Nat.eq_zero_or_pos n with h0 | h0
  · subst h0
    refine ⟨w, ?_, Turn.refl _ _, cur, hb, rfl, rfl⟩
    simp [Builtin.clear_, run_underlying E.und]
  · obtain ⟨m, rfl⟩ : ∃ m, n = m + 1 := ⟨n - 1, by omega⟩
    obtain ⟨row, hrow⟩ : ∃ row, row = (cur.toList.take o ++ (Builtin.zeroCells z.cells (m + 1)).toList ++ cur.toList.drop (o + (Builtin.zeroCells z.cells (m + 1)).toList.length)).toArray := ⟨_, rfl⟩
    rw [← hrow] at hst
    refine ⟨w.setRow b row, ?_, setRow_turn' w b row, row, setRow_heap w b _ row _ _ hb, ?_, ?_⟩
    · simp [Builtin.clear_, run_underlying E.und, hv, hst]
    · rw [hrow, List.size_toArray, sg_len _ _ _ (by rw [hzl, Array.length_toList]; omega), Array.length_toList]
    · rw [hrow, List.toList_toArray, List.append_assoc, List.take_append_of_le_length (by rw [List.length_take, Array.length_toList]; omega), List.take_take, Nat.min_self]
/-- a row whose block was cleared behind its end -/
theorem Orw.cleared {w w' : World} {B b n c o : Nat} {rs : List (List Value)} {cur cur' : Array Value} (h : Orw w B et k (.slice (some ⟨b, 0, none⟩) n c) rs) (hb : Blk w b et cur) (hb' : Blk w' b et cur') (hs : cur'.size = cur.size) (ho : n * k ≤ o) (ht : cur'.toList.take o = cur.toList.take o) : Orw w' B et k (.slice (some ⟨b, 0, none⟩) n c) rs := by
  obtain ⟨cur0, hcur, hcs, htake, hn, hnc, hcm, hB⟩ := orw_block h
  obtain rfl := hcur.inj hb
  refine orw_of hb' hB h.1 hn hnc hcm (hs.trans hcs) ?_
  have := congrArg (List.take (n * k)) ht
  rw [List.take_take, List.take_take, Nat.min_eq_left ho] at this
  rw [this, htake]
end
end Go.Proofs.YtfnillibngijaaaGreatDoor
namespace Go.Proofs.YtfnillibngijaaaGreatDoor
open Go.RowKit
set_option linter.unusedVariables false
set_option linter.unusedSimpArgs false
theorem wanted_none {o : Oper} {y : Nat → Option Bool} (h : o.guard = none) : Region.wanted o y = true := by
  unfold Region.wanted
  rw [h]
theorem wpList_op_g {P : Program} {ops : Array Oper} {rest : List Oper} {o : Oper} {a : Act} {w : World} {Q : Exit → Act → World → Prop} (hgd : Region.wanted o (yielded ops a.tmps) = true) (h : ∀ K : Act → World → Prop, Hid (∀ a' w', wpList P ops Q rest a' w' → K a' w') → o.wp P a w K Q) : wpList P ops Q (o :: rest) a w :=
  wpList_step fun K hK => by
    rw [if_pos hgd]
    exact h K (Lib.hid hK)
section
variable {P : Program} {a : Act} {o : Oper} {W W' : World}
theorem exec_copy_g {t : TypeId} {x y : Operand} {u v r : Value} (ho : o.op = .call { callee := .builtin .copy, args := #[x, y], argTypes := #[t, t] }) (hx : a.eval x = u) (hy : a.eval y = v) (hr : (Builtin.copy_ #[t, t] o.type #[u, v]).run P W = .ok r W') :
    (execOp a.eval o).run P W = .ok (.value r) W' := by
  unfold execOp
  simp only [ho, resolve, invoke, builtin, Sem.run_bind, Sem.run_pure, Result.andThen_ok, List.map_toArray, List.map_cons, List.map_nil, hx, hy, hr]
theorem exec_clear {t : TypeId} {x : Operand} {u r : Value} (ho : o.op = .call { callee := .builtin .clear, args := #[x], argTypes := #[t] }) (hx : a.eval x = u) (hr : (Builtin.clear_ #[t] o.type #[u]).run P W = .ok r W') :
    (execOp a.eval o).run P W = .ok (.value r) W' := by
  unfold execOp
  simp only [ho, resolve, invoke, builtin, Sem.run_bind, Sem.run_pure, Result.andThen_ok, List.map_toArray, List.map_cons, List.map_nil, hx, hr]
theorem gx_loads_g {ty : TypeId} {x : Operand} {b off : Nat} {cs : List Value} {d : TypeDesc} (ho : o.op = .load ty x) (hx : a.eval x = .pointer (some ⟨b, off, none⟩)) (hr : W.rangeAt b off cs)
    (hu : P.underlying ty = some d) (hd : d.isRow = true) (hi : (P.info? ty).map (·.size) = some cs.length) : (execOp a.eval o).run P W = .ok (.value (.agg cs.toArray)) W :=
  exec_load ho hx (run_loadAt_mid W b off ty cs d hr hu hd hi)
end
theorem blk_range_g {W : World} {g : Nat} {t : TypeId} {cs : Array Value} (h : Blk W g t cs) : W.rangeAt g 0 cs.toList := fun j v hj => by
  rw [Nat.zero_add, h.cell j]
  simpa using hj
/-- an element of a row -/
theorem Orw.el {w : World} {B b k n c : Nat} {et : TypeId} {rs : List (List Value)} (h : Orw w B et k (.slice (some ⟨b, 0, none⟩) n c) rs) {i : Nat} {r : List Value} (hr : rs[i]? = some r) : w.rangeAt b (i * k) r := fun j u hu => by
  have hk := (h.1 r (List.mem_of_getElem? hr)).1
  have hj : j < k := by
    have := (List.getElem?_eq_some_iff.1 hu).1
    rwa [hk] at this
  have hf := flat_at h.1 hr hj
  rw [hu] at hf
  have := World.ownsRow.cells (g := b) h.2 rfl (i * k + j) u hf
  rwa [add_nat, Nat.zero_add] at this
/-- a row that holds something lies somewhere -/
theorem Orw.some_ {w : World} {B k : Nat} {et : TypeId} {v : Value} {rs : List (List Value)} (h : Orw w B et k v rs) (h0 : 0 < rs.length) : ∃ b c, v = .slice (some ⟨b, 0, none⟩) rs.length c ∧ rs.length ≤ c ∧ c ≤ maxLen := by
  rcases h.2.2 with ⟨rfl, h1⟩ | ⟨g, cap, cur, rfl, hb1, hg, h1, h2, _⟩
  · omega
  · exact ⟨g, cap, rfl, h1, h2⟩
theorem exec_eqnil {P : Program} {a : Act} {o : Oper} {W : World} {t u e : TypeId} {x y : Operand} {A : Option Addr} {n c : Nat} (ho : o.op = .binOp .eql t x y u) (hx : a.eval x = .slice A n c) (hy : a.eval y = .slice none 0 0) (ht : P.underlying t = some (.slice e)) {r : Bool} (hr : A.isNone = r) :
    (execOp a.eval o).run P W = .ok (.value (.bool r)) W := by
  subst hr
  unfold execOp
  have h : (Op.equal t (.slice A n c) (.slice none 0 0)).run P W = .ok A.isNone W := by
    have key : ∀ d : Nat, (Op.equalIn (d + 1) t (.slice A n c) (.slice none 0 0)).run P W = .ok A.isNone W := fun d => by cases A <;> simp [Op.equalIn, run_underlying ht]
    exact key 9999
  simp [ho, hx, hy, eqGuard, binOp, h]
theorem Orw.own_blk {w : World} {B k : Nat} {et : TypeId} {v : Value} {rs : List (List Value)} (h : Orw w B et k v rs) {b : Nat} (hb : v.ownBlock = some b) : ∃ cur, Blk w b et cur := by
  rcases h.2.2 with ⟨rfl, _⟩ | ⟨g, cap, cur, rfl, _, hg, _⟩
  · cases hb
  · obtain rfl : g = b := Option.some.inj hb
    exact ⟨cur, hg⟩
theorem orw_set {w w' : World} {B k b n c i : Nat} {et : TypeId} {rs : List (List Value)} {r : List Value} {cur cur' : Array Value} (h : Orw w B et k (.slice (some ⟨b, 0, none⟩) n c) rs) (hb : Blk w b et cur) (hb' : Blk w' b et cur') (hs : cur'.size = cur.size) (hi : i < n)
    (hr : r.length = k) (h1 : ∀ u ∈ r, u.oneCell' = true) (hc : ∀ j, cur'[j]? = if i * k ≤ j ∧ j < i * k + k then r[j - i * k]? else cur[j]?) (hk : 0 < k) : Orw w' B et k (.slice (some ⟨b, 0, none⟩) n c) (rs.set i r) := by
  obtain ⟨cur0, hcur, hcs, htake, hn, hnc, hcm, hB⟩ := orw_block h
  obtain rfl := hcur.inj hb
  have hf : Fit k (rs.set i r) := fun x hx => by
    rcases List.mem_or_eq_of_mem_set hx with hx | rfl
    · exact h.1 x hx
    · exact ⟨hr, h1⟩
  refine orw_of hb' hB hf (by rw [List.length_set]; exact hn) hnc hcm (hs.trans hcs) ?_
  apply List.ext_getElem?
  intro j
  by_cases hj : j < n * k
  · rw [List.getElem?_take, if_pos hj, Array.getElem?_toList, hc]
    have hd : j / k < n := (Nat.div_lt_iff_lt_mul hk).2 hj
    have hjj : j = j / k * k + j % k := by rw [Nat.mul_comm]; exact (Nat.div_add_mod j k).symm
    have hm := Nat.mod_lt j hk
    have old : rs.flatten[j]? = cur0[j]? := by
      rw [← htake, List.getElem?_take, if_pos hj, Array.getElem?_toList]
    by_cases hij : j / k = i
    · have e1 : i * k ≤ j ∧ j < i * k + k := by rw [← hij]; omega
      rw [if_pos e1]
      have hx : (rs.set i r)[j / k]? = some r := by rw [hij, List.getElem?_set_self (by omega)]
      have := flat_at hf hx hm
      rw [← hjj] at this
      rw [this, ← hij]
      congr 1
      omega
    · have e1 : ¬ (i * k ≤ j ∧ j < i * k + k) := by
        rintro ⟨e1, e2⟩
        apply hij
        have h1 : i ≤ j / k := (Nat.le_div_iff_mul_le hk).2 e1
        have h2 : j / k < i + 1 := (Nat.div_lt_iff_lt_mul hk).2 (by rw [Nat.succ_mul]; exact e2)
        omega
      rw [if_neg e1, ← old]
      have hx0 : rs[j / k]? = some rs[j / k] := List.getElem?_eq_getElem (by omega)
      have hx : (rs.set i r)[j / k]? = some rs[j / k] := by rw [List.getElem?_set_ne (fun e => hij e.symm)]; exact hx0
      have a1 := flat_at hf hx hm
      have a2 := flat_at h.1 hx0 hm
      rw [← hjj] at a1 a2
      rw [a1, a2]
  · rw [List.getElem?_eq_none (by rw [List.length_take]; omega), List.getElem?_eq_none (by rw [flat_len hf, List.length_set, hn]; omega)]
theorem ix_quo_g {a : Act} {o : Oper} {W : World} {x y : Operand} {n m : Nat} (ho : o.op = .binOp .quo 3 x y 3) (hx : a.eval x = .int .i64 (n : Int)) (hy : a.eval y = .int .i64 (m : Int)) (hm : 0 < m) (hn : n ≤ 9223372036854775807) : (execOp a.eval o).run Tryz.prog W = .ok (.value (.int .i64 ((n / m : Nat) : Int))) W := by
  have hm1 : (m : Int) ≠ 0 := by omega
  obtain ⟨q, hq⟩ : ∃ q : Nat, q = n / m := ⟨_, rfl⟩
  have hlt : q ≤ n := by rw [hq]; exact Nat.div_le_self _ _
  have e : (n : Int).tdiv (m : Int) = (q : Int) := by rw [hq]; rfl
  rw [← hq]
  have hw : IntKind.i64.wrap (q : Int) = (q : Int) := by rw [IntKind.wrap_i64]; omega
  unfold execOp
  simp only [ho, hx, hy]
  go_simp
  rw [if_neg (by omega), show IntKind.i64.wrap ((n : Int) / (m : Int)) = (n : Int) / (m : Int) from by rw [← Int.natCast_ediv, ← hq]; exact hw]
theorem gx_build1_g {P : Program} {a : Act} {o : Oper} {t : TypeId} {x0 : Operand} {u0 r : Value} {W : World} (ho : o.op = .build t #[(0, x0)]) (h0 : a.eval x0 = u0)
    (h : (Instr.build t #[(0, u0)]).run P W = .ok r W) : (execOp a.eval o).run P W = .ok (.value r) W := by
  unfold execOp
  simp only [ho, List.map_toArray, List.map_cons, List.map_nil, h0, h, Sem.run_bind, Sem.run_pure, Result.andThen_ok]
theorem gx_box {P : Program} {a : Act} {o : Oper} {t : TypeId} {x : Operand} {cs : Array Value} {W W' : World} {v : Value} (ho : o.op = .box t x) (hx : a.eval x = .agg cs) (h : (Instr.box t (.agg cs)).run P W = .ok v W') : (execOp a.eval o).run P W = .ok (.value v) W' := by
  unfold execOp
  simp only [ho, hx, h, Sem.run_bind, Sem.run_pure, Result.andThen_ok]
theorem ix_rem_g {a : Act} {o : Oper} {W : World} {x y : Operand} {n m : Nat} (ho : o.op = .binOp .rem 3 x y 3) (hx : a.eval x = .int .i64 (n : Int)) (hy : a.eval y = .int .i64 (m : Int)) (hm : 0 < m) (hn : n ≤ 9223372036854775807) : (execOp a.eval o).run Tryz.prog W = .ok (.value (.int .i64 ((n % m : Nat) : Int))) W := by
  have hm1 : (m : Int) ≠ 0 := by omega
  obtain ⟨q, hq⟩ : ∃ q : Nat, q = n % m := ⟨_, rfl⟩
  have hlt : q ≤ n := by rw [hq]; exact Nat.mod_le _ _
  have e : (n : Int).tmod (m : Int) = (q : Int) := by rw [hq]; rfl
  rw [← hq]
  have hw : IntKind.i64.wrap (q : Int) = (q : Int) := by rw [IntKind.wrap_i64]; omega
  unfold execOp
  simp only [ho, hx, hy]
  go_simp
  omega
theorem orw_pre {w : World} {B k b n c e : Nat} {et : TypeId} {rs : List (List Value)} (h : Orw w B et k (.slice (some ⟨b, 0, none⟩) n c) rs) (he : e ≤ n) : Orw w B et k (.slice (some ⟨b, 0, none⟩) e c) (rs.take e) := by
  obtain ⟨cur, h1, h2, h3, h4, h5, h6, h7⟩ := orw_block h
  have hf : Fit k (rs.take e) := Fit.sub h.1 fun r hr => List.mem_of_mem_take hr
  refine orw_of h1 h7 hf (by rw [List.length_take]; omega) (by omega) h6 h2 ?_
  have hle : e * k ≤ n * k := Nat.mul_le_mul_right k he
  rw [show cur.toList.take (e * k) = (cur.toList.take (n * k)).take (e * k) from by rw [List.take_take, Nat.min_eq_left hle], h3, flat_take e h.1 (by omega)]
theorem gx_build0 {P : Program} {a : Act} {o : Oper} {t : TypeId} {r : Value} {W : World} (ho : o.op = .build t #[]) (h : (Instr.build t #[]).run P W = .ok r W) : (execOp a.eval o).run P W = .ok (.value r) W := by
  unfold execOp
  simp only [ho, List.map_toArray, List.map_nil, h, Sem.run_bind, Sem.run_pure, Result.andThen_ok]
theorem Orw.el0 {w : World} {B b k n c : Nat} {et : TypeId} {rs : List (List Value)} (h : Orw w B et k (.slice (some ⟨b, 0, none⟩) n c) rs) {i : Nat} {r : List Value} (hr : rs[i]? = some r) : w.rangeAt b (0 + i * k) r := by
  rw [Nat.zero_add]; exact h.el hr
end Go.Proofs.YtfnillibngijaaaGreatDoor
namespace Go.Proofs.YtfnillibngijaaaGreatDoor
open Go.RowKit
set_option linter.unusedVariables false
set_option linter.unusedSimpArgs false
theorem ret_cell2_g {P : Program} {fn : Func} {p u : Tmp} {ty : TypeId} (h : fn.results = #[.cell p ty, .tmp u]) (tmps : Array Value) (w : World) (g : Nat) (t : TypeId) (cs : Array Value) (d : TypeDesc) {v : Value}
    (hp : tmps.getD p undef = .pointer (some ⟨g, 0, none⟩)) (hv : tmps.getD u undef = v) (hg : Blk w g t cs) (hu : P.underlying ty = some d) (hd : (match d with | .struct _ | .array _ _ => true | _ => false) = true) (hi : (P.info? ty).map (·.size) = some cs.size) :
    (results fn tmps).run P w = .ok (.tuple #[.agg cs, v]) w := by
  subst hv
  have hp' : tmps[p]?.getD undef = .pointer (some ⟨g, 0, none⟩) := by simpa using hp
  rw [results_cell_tmp h]
  simp [hp', asAddr, run_loadVar_row w g t ty cs (0, 0) d hg hu hd hi, Result.andThen]
theorem ret_cell1_g {P : Program} {fn : Func} {p : Tmp} {ty : TypeId} (h : fn.results = #[.cell p ty]) (tmps : Array Value) (w : World) (g : Nat) (t : TypeId) (cs : Array Value) (d : TypeDesc)
    (hp : tmps.getD p undef = .pointer (some ⟨g, 0, none⟩)) (hg : Blk w g t cs) (hu : P.underlying ty = some d) (hd : (match d with | .struct _ | .array _ _ => true | _ => false) = true) (hi : (P.info? ty).map (·.size) = some cs.size) :
    (results fn tmps).run P w = .ok (.agg cs) w := by
  have hp' : tmps[p]?.getD undef = .pointer (some ⟨g, 0, none⟩) := by simpa using hp
  simp only [results, h]
  simp [Sem.run_bind, Result.andThen, hp', asAddr, run_loadVar_row w g t ty cs (0, 0) d hg hu hd hi]
theorem gx_aaddr_g {P : Program} {a : Act} {o : Oper} {W : World} {t e : TypeId} {x y : Operand} {b off n i sz m : Nat} {k : IntKind} (ho : o.op = .indexAddr t x y) (hx : a.eval x = .pointer (some ⟨b, off, none⟩)) (hy : a.eval y = .int k (i : Int))
    (ht : P.underlying t = some (.array n e)) (hs : (P.info? e).map (·.size) = some sz) (hi : i < n) (hm : off + i * sz = m) : (execOp a.eval o).run P W = .ok (.value (.pointer (some ⟨b, m, none⟩))) W := by
  obtain ⟨j, hj, hjs⟩ := Option.map_eq_some_iff.1 hs
  subst hm
  unfold execOp
  simp [ho, hx, hy, Instr.indexAt, run_underlying ht, asIntOf, sizeOf, typeInfo, hj, hjs, hi, add_nat, Result.andThen, Instr.sureAddr]
theorem wp_store_rowU_g {P : Program} {o : Oper} {a : Act} {w : World} {K : Act → World → Prop} {Q : Exit → Act → World → Prop} (ty : TypeId) (x y : Operand) (ho : o.op = .store ty x y) {g : Nat} {t : TypeId} {old : Array Value} (cells : Array Value) (hb : Blk w g t old)
    (hx : a.eval x = .pointer (some ⟨g, 0, none⟩)) (hy : a.eval y = .agg cells) (hs : old.size = cells.size) (hi : (P.info? ty).map (·.size) = some cells.size) (h1 : ∀ v ∈ cells.toList, v.oneCell' = true)
    (h : ∀ w', Blk w' g t cells → Turn (only g) w w' → K (a.put o.dst undef) w') : o.wp P a w K Q := by
  obtain ⟨w', hr, h2, h3⟩ := run_store_row (P := P) hb hs hi h1
  unfold Oper.wp execOp
  simp only [ho, hx, hy, hr, Sem.run_bind, Sem.run_pure, Result.andThen_ok]
  exact h w' h2 h3
/-- a value of one cell goes into a block, as a step -/
theorem wp_store1U {P : Program} {o : Oper} {a : Act} {w : World} {K : Act → World → Prop} {Q : Exit → Act → World → Prop} (ty : TypeId) (x y : Operand) (ho : o.op = .store ty x y) {g i : Nat} {t : TypeId} {old : Array Value} {v : Value} (hb : Blk w g t old)
    (hx : a.eval x = .pointer (some ⟨g, i, none⟩)) (hy : a.eval y = v) (hi : i < old.size) (hv : v.cells = #[v]) (h1 : v.oneCell' = true) (hsz : (P.info? ty).map (·.size) = some 1)
    (h : ∀ w', Blk w' g t (old.setIfInBounds i v) → Turn (only g) w w' → K (a.put o.dst undef) w') : o.wp P a w K Q := by
  obtain ⟨j, hj, hjs⟩ := Option.map_eq_some_iff.1 hsz
  have hc : w.cell? ⟨g, i, none⟩ = some (old[i]) := by rw [hb.cell i, Array.getElem?_eq_getElem hi]
  have hf : w.frozen? ⟨g, i, none⟩ = false := hb.frozen i
  have hst : (Instr.storeAt ty (.pointer (some ⟨g, i, none⟩)) v).run P w = .ok () (w.setCell ⟨g, i, none⟩ v) := by
    have h0 : (⟨g, i, none⟩ : Addr).add 0 = ⟨g, i, none⟩ := by simp [Addr.add]
    simp [Instr.storeAt, storeVar, hv, Instr.sureAddr, sizeOf, typeInfo, hj, hjs, Result.andThen, storeCells, run_store _ _ _ _ _ h1, stored, h0, hc, hf]
  unfold Oper.wp execOp
  simp only [ho, hx, hy, hst, Sem.run_bind, Sem.run_pure, Result.andThen_ok]
  exact h _ (hb.set_ i v) ((Turn.refl _ w).at_ i v)
theorem run_isAgg_plain {P : Program} {ty : TypeId} (hp : plainB P ty = true) (W : World) : (isAgg ty).run P W = .ok false W := by
  unfold isAgg
  unfold plainB at hp
  split at hp
  · cases hp
  · cases hp
  · cases hp
  · rename_i h1 h2 h3
    cases hu : P.underlying ty with
    | none => exact absurd hu h3
    | some d =>
      rw [Sem.run_bind, run_underlying hu W]
      cases d <;> first | rfl | exact absurd hu (h1 _) | exact absurd hu (h2 _ _)
/-- an array's element by its number: of one cell; of several -/
theorem exec_index1 {P : Program} {a : Act} {o : Oper} {W : World} {t e : TypeId} {x y : Operand} {cs : Array Value} {n i : Nat} {v : Value} {k : IntKind} (ho : o.op = .index t x y) (hx : a.eval x = .agg cs) (hy : a.eval y = .int k (i : Int)) (ht : P.underlying t = some (.array n e))
    (hi : i < n) (hs : (P.info? e).map (·.size) = some 1) (hp : plainB P e = true) (hv : cs[i]? = some v) : (execOp a.eval o).run P W = .ok (.value v) W := by
  obtain ⟨j, hj, hjs⟩ := Option.map_eq_some_iff.1 hs
  have h1 : (Instr.index t (.agg cs) (.int k (i : Int))).run P W = .ok v W := by
    unfold Instr.index
    simp [asIntOf, run_underlying ht, hi, sizeOf, typeInfo, hj, hjs, part, run_isAgg_plain hp W, hv, Result.andThen]
  unfold execOp
  simp only [ho, hx, hy, h1, Sem.run_bind, Sem.run_pure, Result.andThen_ok]
/-- make: so many zero elements, in a row of the call's own -/
theorem orw_make {P : Program} {st et : TypeId} {k by_ : Nat} {z : Value} (E : Elm P st et k by_ z) (h1 : ∀ u ∈ z.cells.toList, u.oneCell' = true) (n : Nat) (hn : by_ * n ≤ 281474976710656) (w : World) :
    ∃ w', (Instr.makeSlice st (.int .i64 (n : Int)) (.int .i64 (n : Int))).run P w = .ok (.slice (some ⟨w.heap.size, 0, none⟩) n n) w' ∧ Orw w' w.heap.size et k (.slice (some ⟨w.heap.size, 0, none⟩) n n) (List.replicate n z.cells.toList) ∧ Turn nowhere w w' := by
  obtain ⟨i0, hi0, hz0, hz1, hz2⟩ := info_parts E.inf
  have hk := E.pos
  have hle : 1 * n ≤ by_ * n := Nat.mul_le_mul_right _ E.byp
  have hb' : (i0.bytes : Int) * (n : Int) ≤ 281474976710656 := by
    have h : ((by_ * n : Nat) : Int) ≤ 281474976710656 := by omega
    rw [hz2]
    rwa [Int.natCast_mul] at h
  have hr := run_make (P := P) w st et i0 z E.und hi0 hz0 .i64 .i64 (n : Int) (n : Int) (by omega) (Int.le_refl _) hb' (by omega)
  rw [hz1] at hr
  simp only [Int.toNat_natCast] at hr
  refine ⟨_, hr, ?_, (Turn.refl nowhere w).alloc _⟩
  have hf : Fit k (List.replicate n z.cells.toList) := fun r hr => by
    obtain rfl := (List.mem_replicate.1 hr).2
    exact ⟨by rw [Array.length_toList, E.zsz], h1⟩
  have hb := Blk.new w et (madeCells z.cells (n * k))
  refine orw_of hb (Nat.le_refl _) hf (by simp) (Nat.le_refl _) (by unfold maxLen; omega) (size_madeCells _ _) ?_
  apply List.ext_getElem?
  intro j
  by_cases hj : j < n * k
  · rw [List.getElem?_take, if_pos hj, Array.getElem?_toList]
    have hd : j / k < n := (Nat.div_lt_iff_lt_mul hk).2 hj
    have hjj : j = j / k * k + j % k := by rw [Nat.mul_comm]; exact (Nat.div_add_mod j k).symm
    have hm := Nat.mod_lt j hk
    have := flat_at (i := j / k) (r := z.cells.toList) hf (by rw [List.getElem?_replicate, if_pos hd]) hm
    rw [← hjj] at this
    rw [this, Array.getElem?_toList]
    unfold madeCells
    have hlt : j % z.cells.size < z.cells.size := Nat.mod_lt _ (by rw [E.zsz]; exact hk)
    rw [Array.getElem?_map, Array.getElem?_range, if_pos hj]
    simp only [Option.map_some]
    rw [getElem!_pos z.cells _ hlt, ← Array.getElem?_eq_getElem hlt, E.zsz]
  · rw [List.getElem?_eq_none (by rw [List.length_take]; omega), List.getElem?_eq_none (by rw [flat_len hf, List.length_replicate]; omega)]
end Go.Proofs.YtfnillibngijaaaGreatDoor
namespace Go.Proofs.YtfnillibngijaaaGreatDoor
open Go.RowKit
open Sh (Wd B8 H8)
set_option linter.unusedVariables false
set_option linter.unusedSimpArgs false
set_option maxRecDepth 20000
theorem sx_neg {a : Act} {o : Oper} {W : World} {x : Operand} {n : Nat} (ho : o.op = .unOp .neg 3 x) (hx : a.eval x = .int .i64 (n : Int)) (hn : n < 32) : (execOp a.eval o).run Tryz.prog W = .ok (.value (.int .i64 (-(n : Int)))) W := by
  unfold execOp
  simp only [ho, hx]
  go_simp
  rw [IntKind.wrap_i64]
  omega
theorem turn_walk (x : Wd) (n : Nat) (w : World) (h1 : 1 ≤ n) (hn : n < 32) : Calls Tryz.prog 73 #[.int .u32 (x.toNat : Int), .int .i64 (-(n : Int))] w fun e w' => e = .returned (.int .u32 ((Sh.rot x n).toNat : Int)) ∧ w = w' := by
  have H1 := Lib.hid h1
  have HN := Lib.hid hn
  clear h1 hn
  go_enter Tryz.func73, Tryz.ntmps73
  go_upto_region 0 with fail
  refine wp_region_lit ?_
  refine wpList_run (v := .int .u32 0) (wanted_none rfl) (gx_assign rfl rfl) ?_
  simp only [Act.put, List.setIfInBounds_toArray, List.set_cons_zero, List.set_cons_succ]
  go_upto_region 1 with fail
  refine wp_region_lit ?_
  refine wpList_run (v := .int .i64 (-(n : Int))) (wanted_none rfl) (exec_move rfl rfl) ?_
  simp only [Act.put, List.setIfInBounds_toArray, List.set_cons_zero, List.set_cons_succ]
  refine wpList_run (v := .int .u64 ((18446744073709551616 - n : Nat) : Int)) (wanted_none rfl) (wd_cvn rfl rfl H1.out HN.out) ?_
  simp only [Act.put, List.setIfInBounds_toArray, List.set_cons_zero, List.set_cons_succ]
  refine wpList_run (v := .int .u64 ((32 - n : Nat) : Int)) (wanted_none rfl) (wd_and31 rfl rfl H1.out HN.out) ?_
  simp only [Act.put, List.setIfInBounds_toArray, List.set_cons_zero, List.set_cons_succ]
  refine wpList_run (v := .int .u64 ((32 - n : Nat) : Int)) (wanted_none rfl) (gx_assign rfl rfl) ?_
  simp only [Act.put, List.setIfInBounds_toArray, List.set_cons_zero, List.set_cons_succ]
  go_upto_region 2 with fail
  refine wp_region_lit ?_
  refine wpList_run (v := .int .u32 ((x).toNat : Int)) (wanted_none rfl) (exec_move rfl rfl) ?_
  simp only [Act.put, List.setIfInBounds_toArray, List.set_cons_zero, List.set_cons_succ]
  refine wpList_run (v := .int .u64 ((32 - n : Nat) : Int)) (wanted_none rfl) (exec_move rfl rfl) ?_
  simp only [Act.put, List.setIfInBounds_toArray, List.set_cons_zero, List.set_cons_succ]
  refine wpList_run (v := .int .u32 ((x <<< (32 - n)).toNat : Int)) (wanted_none rfl) (wd_shlc rfl rfl rfl (by have := H1.out; omega)) ?_
  simp only [Act.put, List.setIfInBounds_toArray, List.set_cons_zero, List.set_cons_succ]
  refine wpList_run (v := .int .u32 ((x).toNat : Int)) (wanted_none rfl) (exec_move rfl rfl) ?_
  simp only [Act.put, List.setIfInBounds_toArray, List.set_cons_zero, List.set_cons_succ]
  refine wpList_run (v := .int .u64 ((32 - n : Nat) : Int)) (wanted_none rfl) (exec_move rfl rfl) ?_
  simp only [Act.put, List.setIfInBounds_toArray, List.set_cons_zero, List.set_cons_succ]
  refine wpList_run (v := .int .u64 (n : Int)) (wanted_none rfl) (wd_sub32 rfl rfl HN.out) ?_
  simp only [Act.put, List.setIfInBounds_toArray, List.set_cons_zero, List.set_cons_succ]
  refine wpList_run (v := .int .u32 ((x >>> n).toNat : Int)) (wanted_none rfl) (wd_shrc rfl rfl rfl HN.out) ?_
  simp only [Act.put, List.setIfInBounds_toArray, List.set_cons_zero, List.set_cons_succ]
  refine wpList_run (v := .int .u32 (((x <<< (32 - n)) ||| (x >>> n)).toNat : Int)) (wanted_none rfl) (wd_or rfl rfl rfl) ?_
  simp only [Act.put, List.setIfInBounds_toArray, List.set_cons_zero, List.set_cons_succ]
  refine wpList_run (v := .int .u32 (((x <<< (32 - n)) ||| (x >>> n)).toNat : Int)) (wanted_none rfl) (gx_assign rfl rfl) ?_
  simp only [Act.put, List.setIfInBounds_toArray, List.set_cons_zero, List.set_cons_succ]
  go_wp2_with fail
  go_ret
  exact ⟨ret_int (by rw [BitVec.or_comm]; rfl), rfl⟩
theorem rot_walk (x : Wd) (n : Nat) (w : World) (h1 : 1 ≤ n) (hn : n < 32) : Calls Tryz.prog 56 #[.int .u32 (x.toNat : Int), .int .i64 (n : Int)] w fun e w' => e = .returned (.int .u32 ((Sh.rot x n).toNat : Int)) ∧ w = w' := by
  have H1 := Lib.hid h1
  have HN := Lib.hid hn
  clear h1 hn
  go_enter Tryz.func56, Tryz.ntmps56
  go_upto_region 0 with fail
  refine wp_region_lit ?_
  refine wpList_run (v := .int .u32 0) (wanted_none rfl) (gx_assign rfl rfl) ?_
  simp only [Act.put, List.setIfInBounds_toArray, List.set_cons_zero, List.set_cons_succ]
  go_upto_region 1 with fail
  refine wp_region_lit ?_
  refine wpList_run (v := .int .u32 ((x).toNat : Int)) (wanted_none rfl) (exec_move rfl rfl) ?_
  simp only [Act.put, List.setIfInBounds_toArray, List.set_cons_zero, List.set_cons_succ]
  refine wpList_run (v := .int .i64 (n : Int)) (wanted_none rfl) (exec_move rfl rfl) ?_
  simp only [Act.put, List.setIfInBounds_toArray, List.set_cons_zero, List.set_cons_succ]
  refine wpList_run (v := .int .i64 (-(n : Int))) (wanted_none rfl) (sx_neg rfl rfl HN.out) ?_
  simp only [Act.put, List.setIfInBounds_toArray, List.set_cons_zero, List.set_cons_succ]
  refine wpList_op_g rfl fun K9 HK9 => ?_
  go_wp2_with fail
  refine (turn_walk x n w H1.out HN.out).mono ?_
  rintro e w9 ⟨rfl, rfl⟩
  refine HK9.out _ _ ?_
  clear HK9
  try simp only [Act.put, List.setIfInBounds_toArray, List.set_cons_zero, List.set_cons_succ]
  refine wpList_run (v := .int .u32 ((Sh.rot x n).toNat : Int)) (wanted_none rfl) (gx_assign rfl rfl) ?_
  simp only [Act.put, List.setIfInBounds_toArray, List.set_cons_zero, List.set_cons_succ]
  go_wp2_with fail
  go_ret
  exact ⟨rfl, rfl⟩
end Go.Proofs.YtfnillibngijaaaGreatDoor
