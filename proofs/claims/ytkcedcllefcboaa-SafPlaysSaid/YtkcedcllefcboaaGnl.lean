/-
  Operations and rows in general, once more. No conditions; it imports nothing of the program.
-/
import Derived.Test.YtkcedcllefcboaaGrd
import Derived.Test.YtkcedcllefcboaaAwk
import Derived.Test.YtkcedcllefcboaaIop
import Derived.Laws.EntriesVeiled
import Derived.Laws.IdiomStrings
import Derived.Laws.Strings
import Derived.Laws.Slices
import Derived.Laws.Concat
import Derived.Laws.Strings3
import Derived.Deep.Cut
import Derived.Deep.DeepCutAuto
import Derived.Deep.CutRange
import Derived.Deep.LoopGhost
import Derived.WalkSmall
import Derived.Deep.QuietTactic
import Derived.BigQuiet
import Derived.StillTailTactics
import Derived.Laws.Bits64
namespace Go.Proofs.Ytkcedcllefcboaa
open Go.RowKit
set_option linter.unusedVariables false
set_option linter.unusedSimpArgs false
theorem rws_blk {w : World} {g k : Nat} {t : TypeId} {x : List Value} (hx : Blk w g t x.toArray) (hk : x.length = k) : Rws w k (some ⟨g, 0, none⟩) 1 [x] := by
  refine ⟨rfl, fun y hy => ?_, by omega, fun _ => ⟨_, _, rfl, fun i y hy j u hu => ?_⟩⟩
  · obtain rfl : y = x := by simpa using hy
    exact hk
  · have hi : i = 0 := by
      have := (List.getElem?_eq_some_iff.1 hy).1
      simpa using this
    subst hi
    obtain rfl : x = y := by simpa using hy
    rw [hx.cell, Nat.zero_mul, Nat.zero_add]
    simpa using hu
theorem wanted_none {o : Oper} {y : Nat → Option Bool} (h : o.guard = none) : Region.wanted o y = true := by
  unfold Region.wanted
  rw [h]
theorem wpList_op {P : Program} {ops : Array Oper} {rest : List Oper} {o : Oper} {a : Act} {w : World} {Q : Exit → Act → World → Prop} (hgd : Region.wanted o (yielded ops a.tmps) = true) (h : ∀ K : Act → World → Prop, Hid (∀ a' w', wpList P ops Q rest a' w' → K a' w') → o.wp P a w K Q) : wpList P ops Q (o :: rest) a w :=
  wpList_step fun K hK => by
    rw [if_pos hgd]
    exact h K (Lib.hid hK)
section
variable {P : Program} {a : Act} {o : Oper} {W W' : World}
theorem gx_cap {x : Operand} {A : Option Addr} {n c : Nat} {t e : TypeId} (ho : o.op = .call { callee := .builtin .cap, args := #[x], argTypes := #[t] }) (hx : a.eval x = .slice A n c) (ht : P.underlying t = some (.slice e)) :
    (execOp a.eval o).run P W = .ok (.value (.int .i64 (c : Int))) W := by
  unfold execOp
  simp [ho, resolve, invoke, builtin, hx, Builtin.cap_, run_underlying ht, goInt]
theorem exec_copy {t : TypeId} {x y : Operand} {u v r : Value} (ho : o.op = .call { callee := .builtin .copy, args := #[x, y], argTypes := #[t, t] }) (hx : a.eval x = u) (hy : a.eval y = v) (hr : (Builtin.copy_ #[t, t] o.type #[u, v]).run P W = .ok r W') :
    (execOp a.eval o).run P W = .ok (.value r) W' := by
  unfold execOp
  simp only [ho, resolve, invoke, builtin, Sem.run_bind, Sem.run_pure, Result.andThen_ok, List.map_toArray, List.map_cons, List.map_nil, hx, hy, hr]
theorem exec_clear {t : TypeId} {x : Operand} {u r : Value} (ho : o.op = .call { callee := .builtin .clear, args := #[x], argTypes := #[t] }) (hx : a.eval x = u) (hr : (Builtin.clear_ #[t] o.type #[u]).run P W = .ok r W') :
    (execOp a.eval o).run P W = .ok (.value r) W' := by
  unfold execOp
  simp only [ho, resolve, invoke, builtin, Sem.run_bind, Sem.run_pure, Result.andThen_ok, List.map_toArray, List.map_cons, List.map_nil, hx, hr]
theorem exec_appz {t u : TypeId} {x y : Operand} {p v r : Value} (ho : o.op = .call { callee := .builtin .append, args := #[x, y], argTypes := #[t, u] }) (hx : a.eval x = p) (hy : a.eval y = v) (hr : (Builtin.append_ #[t, u] o.type #[p, v]).run P W = .ok r W') :
    (execOp a.eval o).run P W = .ok (.value r) W' := by
  unfold execOp
  simp only [ho, resolve, invoke, builtin, Sem.run_bind, Sem.run_pure, Result.andThen_ok, List.map_toArray, List.map_cons, List.map_nil, hx, hy, hr]
theorem gx_loads {ty : TypeId} {x : Operand} {b off : Nat} {cs : List Value} {d : TypeDesc} (ho : o.op = .load ty x) (hx : a.eval x = .pointer (some ⟨b, off, none⟩)) (hr : W.rangeAt b off cs)
    (hu : P.underlying ty = some d) (hd : d.isRow = true) (hi : (P.info? ty).map (·.size) = some cs.length) : (execOp a.eval o).run P W = .ok (.value (.agg cs.toArray)) W :=
  exec_load ho hx (run_loadAt_mid W b off ty cs d hr hu hd hi)
end
theorem blk_range {W : World} {g : Nat} {t : TypeId} {cs : Array Value} (h : Blk W g t cs) : W.rangeAt g 0 cs.toList := fun j v hj => by
  rw [Nat.zero_add, h.cell j]
  simpa using hj
/-- an element of a row -/
theorem Orw.el {w : World} {B b k n c : Nat} {et : TypeId} {rs : List (List Value)} (h : Orw w B et k (.slice (some ⟨b, 0, none⟩) n c) rs) {i : Nat} {r : List Value} (hr : rs[i]? = some r) : w.rangeAt b (i * k) r := fun j u hu => by
  have hk := (h.1 r (List.mem_of_getElem? hr)).1
  have hj : j < k := by
    have := (List.getElem?_eq_some_iff.1 hu).1
    rwa [hk] at this
  have hf := flat_at h.1 hr hj
  rw [hu] at hf
  have := World.ownsRow.cells (g := b) h.2 rfl (i * k + j) u hf
  rwa [add_nat, Nat.zero_add] at this
/-- a row that holds something lies somewhere -/
theorem Orw.some_ {w : World} {B k : Nat} {et : TypeId} {v : Value} {rs : List (List Value)} (h : Orw w B et k v rs) (h0 : 0 < rs.length) : ∃ b c, v = .slice (some ⟨b, 0, none⟩) rs.length c ∧ rs.length ≤ c ∧ c ≤ maxLen := by
  rcases h.2.2 with ⟨rfl, h1⟩ | ⟨g, cap, cur, rfl, hb1, hg, h1, h2, _⟩
  · omega
  · exact ⟨g, cap, rfl, h1, h2⟩
/-- s[i:j:len(s)], whose value nobody reads -/
theorem sl_three {P : Program} {st et : TypeId} {k by_ : Nat} {z : Value} (E : Elm P st et k by_ z) (A : Option Addr) (n c i j : Nat) (hij : i ≤ j) (hj : j ≤ n) (hc : n ≤ c) (W : World) : ∃ v, (Instr.sliceAt st (.slice A n c) (some (.int .i64 (i : Int))) (some (.int .i64 (j : Int))) (some (.int .i64 (n : Int)))).run P W = .ok v W := by
  obtain ⟨i0, hi1, hi2⟩ := E.size
  have hu := E.und
  have b1 : (0 : Int) ≤ (i : Int) ∧ (i : Int) ≤ (j : Int) := ⟨by omega, by omega⟩
  have b2 : (0 : Int) ≤ (j : Int) ∧ (j : Int) ≤ (n : Int) := ⟨by omega, by omega⟩
  have b3 : (0 : Int) ≤ (n : Int) ∧ (n : Int) ≤ (c : Int) := ⟨by omega, by omega⟩
  refine ⟨.slice (fromK k A n i) (j - i) (n - i), ?_⟩
  simp [Instr.sliceAt, Instr.slice, Instr.sliceBounds, Instr.sliceBound, asIntOf, run_underlying hu, sizeOf, typeInfo, hi1, hi2, b1, b2, b3, fromK]
  rw [if_pos hc, if_pos hj, if_pos hij]
theorem exec_eqnil {P : Program} {a : Act} {o : Oper} {W : World} {t u e : TypeId} {x y : Operand} {A : Option Addr} {n c : Nat} (ho : o.op = .binOp .eql t x y u) (hx : a.eval x = .slice A n c) (hy : a.eval y = .slice none 0 0) (ht : P.underlying t = some (.slice e)) {r : Bool} (hr : A.isNone = r) :
    (execOp a.eval o).run P W = .ok (.value (.bool r)) W := by
  subst hr
  unfold execOp
  have h : (Op.equal t (.slice A n c) (.slice none 0 0)).run P W = .ok A.isNone W := by
    have key : ∀ d : Nat, (Op.equalIn (d + 1) t (.slice A n c) (.slice none 0 0)).run P W = .ok A.isNone W := fun d => by cases A <;> simp [Op.equalIn, run_underlying ht]
    exact key 9999
  simp [ho, hx, hy, eqGuard, binOp, h]
/-- s[m:n] -/
theorem sl_mid {P : Program} {st et : TypeId} {k by_ : Nat} {z : Value} (E : Elm P st et k by_ z) (A : Option Addr) (m n c : Nat) (hm : m ≤ n) (hc : n ≤ c) (W : World) : (Instr.sliceAt st (.slice A m c) (some (.int .i64 (m : Int))) (some (.int .i64 (n : Int))) none).run P W = .ok (.slice (fromK k A c m) (n - m) (c - m)) W := by
  obtain ⟨i0, hi1, hi2⟩ := E.size
  have hu := E.und
  have b1 : (0 : Int) ≤ (m : Int) ∧ (m : Int) ≤ (n : Int) := ⟨by omega, by omega⟩
  have b2 : (0 : Int) ≤ (n : Int) ∧ (n : Int) ≤ (c : Int) := ⟨by omega, by omega⟩
  simp [Instr.sliceAt, Instr.slice, Instr.sliceBounds, Instr.sliceBound, asIntOf, run_underlying hu, sizeOf, typeInfo, hi1, hi2, b1, b2, fromK]
  rw [if_pos hc, if_pos hm]
theorem wpList_storeU {P : Program} {ops : Array Oper} {rest : List Oper} {o : Oper} {a : Act} {w : World} {Q : Exit → Act → World → Prop} (i : Nat) (v : Value) (hgd : Region.wanted o (yielded ops a.tmps) = true) (ty : TypeId) (x y : Operand) (ho : o.op = .store ty x y) {g : Nat} {t : TypeId} {old : Array Value} (hb : Blk w g t old)
    (hx : a.eval x = .pointer (some ⟨g, i, none⟩)) (hy : a.eval y = v) (hi : i < old.size) (hv : v.cells = #[v] ∧ v.oneCell' = true) (hsz : (P.info? ty).map (·.size) = some 1)
    (h : ∀ w', Blk w' g t (old.setIfInBounds i v) → Turn (only g) w w' → wpList P ops Q rest (a.put o.dst undef) w') : wpList P ops Q (o :: rest) a w :=
  wpList_store1 hgd ty x y ho hb hx hy hi hv.1 hv.2 hsz (h _)
theorem slice_one {w : World} {B k : Nat} {et : TypeId} {v : Value} {rs : List (List Value)} (h : Orw w B et k v rs) : v.cells = #[v] ∧ v.oneCell' = true := by
  obtain ⟨A9, c9, rfl, _⟩ := h.form
  exact ⟨rfl, rfl⟩
theorem Orw.own_blk {w : World} {B k : Nat} {et : TypeId} {v : Value} {rs : List (List Value)} (h : Orw w B et k v rs) {b : Nat} (hb : v.ownBlock = some b) : ∃ cur, Blk w b et cur := by
  rcases h.2.2 with ⟨rfl, _⟩ | ⟨g, cap, cur, rfl, _, hg, _⟩
  · cases hb
  · obtain rfl : g = b := Option.some.inj hb
    exact ⟨cur, hg⟩
theorem orw_set {w w' : World} {B k b n c i : Nat} {et : TypeId} {rs : List (List Value)} {r : List Value} {cur cur' : Array Value} (h : Orw w B et k (.slice (some ⟨b, 0, none⟩) n c) rs) (hb : Blk w b et cur) (hb' : Blk w' b et cur') (hs : cur'.size = cur.size) (hi : i < n)
    (hr : r.length = k) (h1 : ∀ u ∈ r, u.oneCell' = true) (hc : ∀ j, cur'[j]? = if i * k ≤ j ∧ j < i * k + k then r[j - i * k]? else cur[j]?) (hk : 0 < k) : Orw w' B et k (.slice (some ⟨b, 0, none⟩) n c) (rs.set i r) := by
  obtain ⟨cur0, hcur, hcs, htake, hn, hnc, hcm, hB⟩ := orw_block h
  obtain rfl := hcur.inj hb
  have hf : Fit k (rs.set i r) := fun x hx => by
    rcases List.mem_or_eq_of_mem_set hx with hx | rfl
    · exact h.1 x hx
    · exact ⟨hr, h1⟩
  refine orw_of hb' hB hf (by rw [List.length_set]; exact hn) hnc hcm (hs.trans hcs) ?_
  apply List.ext_getElem?
  intro j
  by_cases hj : j < n * k
  · rw [List.getElem?_take, if_pos hj, Array.getElem?_toList, hc]
    have hd : j / k < n := (Nat.div_lt_iff_lt_mul hk).2 hj
    have hjj : j = j / k * k + j % k := by rw [Nat.mul_comm]; exact (Nat.div_add_mod j k).symm
    have hm := Nat.mod_lt j hk
    have old : rs.flatten[j]? = cur0[j]? := by
      rw [← htake, List.getElem?_take, if_pos hj, Array.getElem?_toList]
    by_cases hij : j / k = i
    · have e1 : i * k ≤ j ∧ j < i * k + k := by rw [← hij]; omega
      rw [if_pos e1]
      have hx : (rs.set i r)[j / k]? = some r := by rw [hij, List.getElem?_set_self (by omega)]
      have := flat_at hf hx hm
      rw [← hjj] at this
      rw [this, ← hij]
      congr 1
      omega
    · have e1 : ¬ (i * k ≤ j ∧ j < i * k + k) := by
        rintro ⟨e1, e2⟩
        apply hij
        have h1 : i ≤ j / k := (Nat.le_div_iff_mul_le hk).2 e1
        have h2 : j / k < i + 1 := (Nat.div_lt_iff_lt_mul hk).2 (by rw [Nat.succ_mul]; exact e2)
        omega
      rw [if_neg e1, ← old]
      have hx0 : rs[j / k]? = some rs[j / k] := List.getElem?_eq_getElem (by omega)
      have hx : (rs.set i r)[j / k]? = some rs[j / k] := by rw [List.getElem?_set_ne (fun e => hij e.symm)]; exact hx0
      have a1 := flat_at hf hx hm
      have a2 := flat_at h.1 hx0 hm
      rw [← hjj] at a1 a2
      rw [a1, a2]
  · rw [List.getElem?_eq_none (by rw [List.length_take]; omega), List.getElem?_eq_none (by rw [flat_len hf, List.length_set, hn]; omega)]
theorem ix_quo {a : Act} {o : Oper} {W : World} {x y : Operand} {n m : Nat} (ho : o.op = .binOp .quo 3 x y 3) (hx : a.eval x = .int .i64 (n : Int)) (hy : a.eval y = .int .i64 (m : Int)) (hm : 0 < m) (hn : n ≤ 9223372036854775807) : (execOp a.eval o).run Try.prog W = .ok (.value (.int .i64 ((n / m : Nat) : Int))) W := by
  have hm1 : (m : Int) ≠ 0 := by omega
  obtain ⟨q, hq⟩ : ∃ q : Nat, q = n / m := ⟨_, rfl⟩
  have hlt : q ≤ n := by rw [hq]; exact Nat.div_le_self _ _
  have e : (n : Int).tdiv (m : Int) = (q : Int) := by rw [hq]; rfl
  rw [← hq]
  have hw : IntKind.i64.wrap (q : Int) = (q : Int) := by rw [IntKind.wrap_i64]; omega
  unfold execOp
  simp only [ho, hx, hy]
  go_simp
  rw [if_neg (by omega), show IntKind.i64.wrap ((n : Int) / (m : Int)) = (n : Int) / (m : Int) from by rw [← Int.natCast_ediv, ← hq]; exact hw]
theorem gx_build1 {P : Program} {a : Act} {o : Oper} {t : TypeId} {x0 : Operand} {u0 r : Value} {W : World} (ho : o.op = .build t #[(0, x0)]) (h0 : a.eval x0 = u0)
    (h : (Instr.build t #[(0, u0)]).run P W = .ok r W) : (execOp a.eval o).run P W = .ok (.value r) W := by
  unfold execOp
  simp only [ho, List.map_toArray, List.map_cons, List.map_nil, h0, h, Sem.run_bind, Sem.run_pure, Result.andThen_ok]
theorem gx_box {P : Program} {a : Act} {o : Oper} {t : TypeId} {x : Operand} {cs : Array Value} {W W' : World} {v : Value} (ho : o.op = .box t x) (hx : a.eval x = .agg cs) (h : (Instr.box t (.agg cs)).run P W = .ok v W') : (execOp a.eval o).run P W = .ok (.value v) W' := by
  unfold execOp
  simp only [ho, hx, h, Sem.run_bind, Sem.run_pure, Result.andThen_ok]
theorem ix_rem {a : Act} {o : Oper} {W : World} {x y : Operand} {n m : Nat} (ho : o.op = .binOp .rem 3 x y 3) (hx : a.eval x = .int .i64 (n : Int)) (hy : a.eval y = .int .i64 (m : Int)) (hm : 0 < m) (hn : n ≤ 9223372036854775807) : (execOp a.eval o).run Try.prog W = .ok (.value (.int .i64 ((n % m : Nat) : Int))) W := by
  have hm1 : (m : Int) ≠ 0 := by omega
  obtain ⟨q, hq⟩ : ∃ q : Nat, q = n % m := ⟨_, rfl⟩
  have hlt : q ≤ n := by rw [hq]; exact Nat.mod_le _ _
  have e : (n : Int).tmod (m : Int) = (q : Int) := by rw [hq]; rfl
  rw [← hq]
  have hw : IntKind.i64.wrap (q : Int) = (q : Int) := by rw [IntKind.wrap_i64]; omega
  unfold execOp
  simp only [ho, hx, hy]
  go_simp
  omega
theorem orw_pre {w : World} {B k b n c e : Nat} {et : TypeId} {rs : List (List Value)} (h : Orw w B et k (.slice (some ⟨b, 0, none⟩) n c) rs) (he : e ≤ n) : Orw w B et k (.slice (some ⟨b, 0, none⟩) e c) (rs.take e) := by
  obtain ⟨cur, h1, h2, h3, h4, h5, h6, h7⟩ := orw_block h
  have hf : Fit k (rs.take e) := Fit.sub h.1 fun r hr => List.mem_of_mem_take hr
  refine orw_of h1 h7 hf (by rw [List.length_take]; omega) (by omega) h6 h2 ?_
  have hle : e * k ≤ n * k := Nat.mul_le_mul_right k he
  rw [show cur.toList.take (e * k) = (cur.toList.take (n * k)).take (e * k) from by rw [List.take_take, Nat.min_eq_left hle], h3, flat_take e h.1 (by omega)]
theorem gx_build0 {P : Program} {a : Act} {o : Oper} {t : TypeId} {r : Value} {W : World} (ho : o.op = .build t #[]) (h : (Instr.build t #[]).run P W = .ok r W) : (execOp a.eval o).run P W = .ok (.value r) W := by
  unfold execOp
  simp only [ho, List.map_toArray, List.map_nil, h, Sem.run_bind, Sem.run_pure, Result.andThen_ok]
theorem gx_max {a : Act} {o : Oper} {W : World} {x y : Operand} {t u : TypeId} {i j r : Int} (ho : o.op = .call { callee := .builtin .max, args := #[x, y], argTypes := #[t, u] }) (hx : a.eval x = .int .i64 i) (hy : a.eval y = .int .i64 j) (ht : o.type = 3) (hr : (if i < j then j else i) = r) : (execOp a.eval o).run Try.prog W = .ok (.value (.int .i64 r)) W := by
  subst hr
  unfold execOp
  simp only [ho, ht, resolve, invoke, builtin, List.map_toArray, List.map_cons, List.map_nil, hx, hy]
  by_cases h : i < j
  · rw [if_pos h]; go_simp; try omega
  · rw [if_neg h]; go_simp; try omega
theorem Orw.el0 {w : World} {B b k n c : Nat} {et : TypeId} {rs : List (List Value)} (h : Orw w B et k (.slice (some ⟨b, 0, none⟩) n c) rs) {i : Nat} {r : List Value} (hr : rs[i]? = some r) : w.rangeAt b (0 + i * k) r := by
  rw [Nat.zero_add]; exact h.el hr
end Go.Proofs.Ytkcedcllefcboaa
