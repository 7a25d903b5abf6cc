/-
  Texts in one file: Gno WlG. Conditions: the tables and the errors read as the program's text lays them.
-/
import Derived.Test.YtelipeoilcepbaaDoorWp3
import Derived.Laws.ResultCell
import Derived.Test.YtelipeoilcepbaaDoorWp0
import Derived.Deep.LoopGhost
import Derived.WalkSmall
import Derived.Test.YtelipeoilcepbaaDoorProg
namespace Go.Proofs.YtelipeoilcepbaaDoor
open Go.RowKit
set_option linter.unusedVariables false
set_option linter.unusedSimpArgs false
theorem ret_cell2 {P : Program} {fn : Func} {p u : Tmp} {ty : TypeId} (h : fn.results = #[.cell p ty, .tmp u]) (tmps : Array Value) (w : World) (g : Nat) (t : TypeId) (cs : Array Value) (d : TypeDesc) {v : Value}
    (hp : tmps.getD p undef = .pointer (some ⟨g, 0, none⟩)) (hv : tmps.getD u undef = v) (hg : Blk w g t cs) (hu : P.underlying ty = some d) (hd : (match d with | .struct _ | .array _ _ => true | _ => false) = true) (hi : (P.info? ty).map (·.size) = some cs.size) :
    (results fn tmps).run P w = .ok (.tuple #[.agg cs, v]) w := by
  subst hv
  have hp' : tmps[p]?.getD undef = .pointer (some ⟨g, 0, none⟩) := by simpa using hp
  rw [results_cell_tmp h]
  simp [hp', asAddr, run_loadVar_row w g t ty cs (0, 0) d hg hu hd hi, Result.andThen]
theorem ret_cell1 {P : Program} {fn : Func} {p : Tmp} {ty : TypeId} (h : fn.results = #[.cell p ty]) (tmps : Array Value) (w : World) (g : Nat) (t : TypeId) (cs : Array Value) (d : TypeDesc)
    (hp : tmps.getD p undef = .pointer (some ⟨g, 0, none⟩)) (hg : Blk w g t cs) (hu : P.underlying ty = some d) (hd : (match d with | .struct _ | .array _ _ => true | _ => false) = true) (hi : (P.info? ty).map (·.size) = some cs.size) :
    (results fn tmps).run P w = .ok (.agg cs) w := by
  have hp' : tmps[p]?.getD undef = .pointer (some ⟨g, 0, none⟩) := by simpa using hp
  simp only [results, h]
  simp [Sem.run_bind, Result.andThen, hp', asAddr, run_loadVar_row w g t ty cs (0, 0) d hg hu hd hi]
theorem gx_aaddr {P : Program} {a : Act} {o : Oper} {W : World} {t e : TypeId} {x y : Operand} {b off n i sz m : Nat} {k : IntKind} (ho : o.op = .indexAddr t x y) (hx : a.eval x = .pointer (some ⟨b, off, none⟩)) (hy : a.eval y = .int k (i : Int))
    (ht : P.underlying t = some (.array n e)) (hs : (P.info? e).map (·.size) = some sz) (hi : i < n) (hm : off + i * sz = m) : (execOp a.eval o).run P W = .ok (.value (.pointer (some ⟨b, m, none⟩))) W := by
  obtain ⟨j, hj, hjs⟩ := Option.map_eq_some_iff.1 hs
  subst hm
  unfold execOp
  simp [ho, hx, hy, Instr.indexAt, run_underlying ht, asIntOf, sizeOf, typeInfo, hj, hjs, hi, add_nat, Result.andThen, Instr.sureAddr]
theorem wp_store_rowU {P : Program} {o : Oper} {a : Act} {w : World} {K : Act → World → Prop} {Q : Exit → Act → World → Prop} (ty : TypeId) (x y : Operand) (ho : o.op = .store ty x y) {g : Nat} {t : TypeId} {old : Array Value} (cells : Array Value) (hb : Blk w g t old)
    (hx : a.eval x = .pointer (some ⟨g, 0, none⟩)) (hy : a.eval y = .agg cells) (hs : old.size = cells.size) (hi : (P.info? ty).map (·.size) = some cells.size) (h1 : ∀ v ∈ cells.toList, v.oneCell' = true)
    (h : ∀ w', Blk w' g t cells → Turn (only g) w w' → K (a.put o.dst undef) w') : o.wp P a w K Q := by
  obtain ⟨w', hr, h2, h3⟩ := run_store_row (P := P) hb hs hi h1
  unfold Oper.wp execOp
  simp only [ho, hx, hy, hr, Sem.run_bind, Sem.run_pure, Result.andThen_ok]
  exact h w' h2 h3
theorem run_isAgg_plain {P : Program} {ty : TypeId} (hp : plainB P ty = true) (W : World) : (isAgg ty).run P W = .ok false W := by
  unfold isAgg
  unfold plainB at hp
  split at hp
  · cases hp
  · cases hp
  · cases hp
  · rename_i h1 h2 h3
    cases hu : P.underlying ty with
    | none => exact absurd hu h3
    | some d =>
      rw [Sem.run_bind, run_underlying hu W]
      cases d <;> first | rfl | exact absurd hu (h1 _) | exact absurd hu (h2 _ _)
theorem orw_make {P : Program} {st et : TypeId} {k by_ : Nat} {z : Value} (E : Elm P st et k by_ z) (h1 : ∀ u ∈ z.cells.toList, u.oneCell' = true) (n : Nat) (hn : by_ * n ≤ 281474976710656) (w : World) :
    ∃ w', (Instr.makeSlice st (.int .i64 (n : Int)) (.int .i64 (n : Int))).run P w = .ok (.slice (some ⟨w.heap.size, 0, none⟩) n n) w' ∧ Orw w' w.heap.size et k (.slice (some ⟨w.heap.size, 0, none⟩) n n) (List.replicate n z.cells.toList) ∧ Turn nowhere w w' := by
  obtain ⟨i0, hi0, hz0, hz1, hz2⟩ := info_parts E.inf
  have hk := E.pos
  have hle : 1 * n ≤ by_ * n := Nat.mul_le_mul_right _ E.byp
  have hb' : (i0.bytes : Int) * (n : Int) ≤ 281474976710656 := by
    have h : ((by_ * n : Nat) : Int) ≤ 281474976710656 := by omega
    rw [hz2]
    rwa [Int.natCast_mul] at h
  have hr := run_make (P := P) w st et i0 z E.und hi0 hz0 .i64 .i64 (n : Int) (n : Int) (by omega) (Int.le_refl _) hb' (by omega)
  rw [hz1] at hr
  simp only [Int.toNat_natCast] at hr
  refine ⟨_, hr, ?_, (Turn.refl nowhere w).alloc _⟩
  have hf : Fit k (List.replicate n z.cells.toList) := fun r hr => by
    obtain rfl := (List.mem_replicate.1 hr).2
    exact ⟨by rw [Array.length_toList, E.zsz], h1⟩
  have hb := Blk.new w et (madeCells z.cells (n * k))
  refine orw_of hb (Nat.le_refl _) hf (by simp) (Nat.le_refl _) (by unfold maxLen; omega) (size_madeCells _ _) ?_
  apply List.ext_getElem?
  intro j
  by_cases hj : j < n * k
  · rw [List.getElem?_take, if_pos hj, Array.getElem?_toList]
    have hd : j / k < n := (Nat.div_lt_iff_lt_mul hk).2 hj
    have hjj : j = j / k * k + j % k := by rw [Nat.mul_comm]; exact (Nat.div_add_mod j k).symm
    have hm := Nat.mod_lt j hk
    have := flat_at (i := j / k) (r := z.cells.toList) hf (by rw [List.getElem?_replicate, if_pos hd]) hm
    rw [← hjj] at this
    rw [this, Array.getElem?_toList]
    unfold madeCells
    have hlt : j % z.cells.size < z.cells.size := Nat.mod_lt _ (by rw [E.zsz]; exact hk)
    rw [Array.getElem?_map, Array.getElem?_range, if_pos hj]
    simp only [Option.map_some]
    rw [getElem!_pos z.cells _ hlt, ← Array.getElem?_eq_getElem hlt, E.zsz]
  · rw [List.getElem?_eq_none (by rw [List.length_take]; omega), List.getElem?_eq_none (by rw [flat_len hf, List.length_replicate]; omega)]
end Go.Proofs.YtelipeoilcepbaaDoor
namespace Go.Proofs.YtelipeoilcepbaaDoor
open Go.RowKit
open Wl (B8)
set_option linter.unusedVariables false
set_option linter.unusedSimpArgs false
set_option maxRecDepth 20000
theorem size_u8 : (Tryd.prog.info? 5).map (·.size) = some 1 := by kernel_rfl
theorem add_at (b off i : Nat) : (⟨b, off, none⟩ : Addr).add i = ⟨b, off + i, none⟩ := add_nat b off i
section
variable {a : Act} {o : Oper} {W : World} {x y z u : Operand}
theorem sx_lhm {b off n c i j m : Nat} (hij : i ≤ j) (him : i < m) (hjm : j ≤ m) (hm : m ≤ c) (ho : o.op = .slice 38 x (some y) (some z) (some u)) (hx : a.eval x = .slice (some ⟨b, off, none⟩) n c) (hy : a.eval y = .int .i64 (i : Int)) (hz : a.eval z = .int .i64 (j : Int)) (hu : a.eval u = .int .i64 (m : Int)) :
    (execOp a.eval o).run Tryd.prog W = .ok (.value (.slice (some ⟨b, off + i, none⟩) (j - i) (m - i))) W := by
  obtain ⟨i0, hi1, hi2⟩ := Option.map_eq_some_iff.1 size_u8
  have hu8 := Tryd.underlying38
  refine exec_slice ho hx (congrArg some hy) (congrArg some hz) (congrArg some hu) ?_
  have b1 : (0 : Int) ≤ (i : Int) ∧ (i : Int) ≤ (j : Int) := ⟨by omega, by omega⟩
  have b2 : (0 : Int) ≤ (j : Int) ∧ (j : Int) ≤ (m : Int) := ⟨by omega, by omega⟩
  have b3 : (0 : Int) ≤ (m : Int) ∧ (m : Int) ≤ (c : Int) := ⟨by omega, by omega⟩
  simp [Instr.sliceAt, Instr.slice, Instr.sliceBounds, Instr.sliceBound, asIntOf, run_underlying hu8, sizeOf, typeInfo, hi1, hi2, b1, b2, b3, add_at, Result.andThen]
  simp only [if_pos hm, if_pos hjm, if_pos hij]
  simp [show ¬ m = i by omega]
theorem sx_lh {b off n c i j : Nat} (hij : i ≤ j) (hic : i < c) (hm : j ≤ c) (ho : o.op = .slice 38 x (some y) (some z) none) (hx : a.eval x = .slice (some ⟨b, off, none⟩) n c) (hy : a.eval y = .int .i64 (i : Int)) (hz : a.eval z = .int .i64 (j : Int)) :
    (execOp a.eval o).run Tryd.prog W = .ok (.value (.slice (some ⟨b, off + i, none⟩) (j - i) (c - i))) W := by
  obtain ⟨i0, hi1, hi2⟩ := Option.map_eq_some_iff.1 size_u8
  have hu8 := Tryd.underlying38
  refine exec_slice ho hx (congrArg some hy) (congrArg some hz) rfl ?_
  have b1 : (0 : Int) ≤ (i : Int) ∧ (i : Int) ≤ (j : Int) := ⟨by omega, by omega⟩
  have b2 : (0 : Int) ≤ (j : Int) ∧ (j : Int) ≤ (c : Int) := ⟨by omega, by omega⟩
  simp [Instr.sliceAt, Instr.slice, Instr.sliceBounds, Instr.sliceBound, asIntOf, run_underlying hu8, sizeOf, typeInfo, hi1, hi2, b1, b2, add_at, Result.andThen]
  simp only [if_pos hm, if_pos hij]
  simp [show ¬ c = i by omega]
theorem sx_l {b off n c i : Nat} (hin : i ≤ n) (hic : i < c) (ho : o.op = .slice 38 x (some y) none none) (hx : a.eval x = .slice (some ⟨b, off, none⟩) n c) (hy : a.eval y = .int .i64 (i : Int)) :
    (execOp a.eval o).run Tryd.prog W = .ok (.value (.slice (some ⟨b, off + i, none⟩) (n - i) (c - i))) W := by
  obtain ⟨i0, hi1, hi2⟩ := Option.map_eq_some_iff.1 size_u8
  have hu8 := Tryd.underlying38
  refine exec_slice ho hx (congrArg some hy) rfl rfl ?_
  have b1 : (0 : Int) ≤ (i : Int) ∧ (i : Int) ≤ (n : Int) := ⟨by omega, by omega⟩
  simp [Instr.sliceAt, Instr.slice, Instr.sliceBounds, Instr.sliceBound, asIntOf, run_underlying hu8, sizeOf, typeInfo, hi1, hi2, b1, add_at, Result.andThen]
  rw [if_pos hin]
  simp [show ¬ c = i by omega]
theorem sx_h {A : Option Addr} {n c j : Nat} (hm : j ≤ c) (ho : o.op = .slice 38 x none (some z) none) (hx : a.eval x = .slice A n c) (hz : a.eval z = .int .i64 (j : Int)) :
    (execOp a.eval o).run Tryd.prog W = .ok (.value (.slice A j c)) W := by
  obtain ⟨i0, hi1, hi2⟩ := Option.map_eq_some_iff.1 size_u8
  have hu8 := Tryd.underlying38
  refine exec_slice ho hx rfl (congrArg some hz) rfl ?_
  have b2 : (0 : Int) ≤ (j : Int) ∧ (j : Int) ≤ (c : Int) := ⟨by omega, by omega⟩
  simp [Instr.sliceAt, Instr.slice, Instr.sliceBounds, Instr.sliceBound, asIntOf, run_underlying hu8, sizeOf, typeInfo, hi1, hi2, b2, Result.andThen]
  rw [if_pos hm]
  cases A <;> simp [Addr.add]
theorem st_lh {g i j : Nat} (hij : i ≤ j) (hi : i < 12) (hm : j ≤ 12) (ho : o.op = .slice 95 x (some y) (some z) none) (hx : a.eval x = .pointer (some ⟨g, 0, none⟩)) (hy : a.eval y = .int .i64 (i : Int)) (hz : a.eval z = .int .i64 (j : Int)) :
    (execOp a.eval o).run Tryd.prog W = .ok (.value (.slice (some ⟨g, i, none⟩) (j - i) (12 - i))) W := by
  obtain ⟨i0, hi1, hi2⟩ := Option.map_eq_some_iff.1 size_u8
  have hu8 := Tryd.underlying95
  refine exec_slice ho hx (congrArg some hy) (congrArg some hz) rfl ?_
  have b1 : (0 : Int) ≤ (i : Int) ∧ (i : Int) ≤ (j : Int) := ⟨by omega, by omega⟩
  have b2 : (0 : Int) ≤ (j : Int) ∧ (j : Int) ≤ 12 := ⟨by omega, by omega⟩
  simp [Instr.sliceAt, Instr.sureAddr, Instr.slice, Instr.sliceBounds, Instr.sliceBound, asIntOf, run_underlying hu8, sizeOf, typeInfo, hi1, hi2, b1, b2, add_at, Result.andThen]
  simp only [if_pos hm, if_pos hij]
  simp [show ¬ 12 = i by omega]
theorem st_l {g i : Nat} (hi : i < 12) (ho : o.op = .slice 95 x (some y) none none) (hx : a.eval x = .pointer (some ⟨g, 0, none⟩)) (hy : a.eval y = .int .i64 (i : Int)) :
    (execOp a.eval o).run Tryd.prog W = .ok (.value (.slice (some ⟨g, i, none⟩) (12 - i) (12 - i))) W := by
  obtain ⟨i0, hi1, hi2⟩ := Option.map_eq_some_iff.1 size_u8
  have hu8 := Tryd.underlying95
  refine exec_slice ho hx (congrArg some hy) rfl rfl ?_
  have b1 : (0 : Int) ≤ (i : Int) ∧ (i : Int) ≤ 12 := ⟨by omega, by omega⟩
  simp [Instr.sliceAt, Instr.sureAddr, Instr.slice, Instr.sliceBounds, Instr.sliceBound, asIntOf, run_underlying hu8, sizeOf, typeInfo, hi1, hi2, b1, add_at, Result.andThen]
  simp only [if_pos (show i ≤ 12 by omega), if_neg (show ¬ 12 = i by omega)]
theorem exec_tagAt {A : Option Addr} {c : Nat} (ho : o.op = .sliceToArrayPointer 95 x) (hx : a.eval x = .slice A 12 c) : (execOp a.eval o).run Tryd.prog W = .ok (.value (.pointer A)) W := by
  unfold execOp
  simp only [ho, hx]
  have hu := Tryd.underlying95
  simp [Instr.arrayAt, run_underlying hu, Result.andThen]
theorem wx_shl8 {n : Nat} {tu : TypeId} (ho : o.op = .binOp .shl 3 x (.const (.int .u64 8)) tu) (hx : a.eval x = .int .i64 (n : Int)) (hn : 256 * n < 9223372036854775808) : (execOp a.eval o).run Tryd.prog W = .ok (.value (.int .i64 ((256 * n : Nat) : Int))) W := by
  unfold execOp
  simp only [ho, hx]
  go_simp
  rw [IntKind.wrap_i64]
  omega
theorem wx_or8 {n m r : Nat} (ho : o.op = .binOp .or 3 x y 3) (hx : a.eval x = .int .i64 ((256 * n : Nat) : Int)) (hy : a.eval y = .int .i64 (m : Int)) (hn : 256 * n < 9223372036854775808) (hm : m < 256) (hr : n * 256 + m = r) : (execOp a.eval o).run Tryd.prog W = .ok (.value (.int .i64 (r : Int))) W := by
  subst hr
  unfold execOp
  simp only [ho, hx, hy]
  go_simp
  simp only [bits]
  have e1 : (256 * (n : Int) % 2 ^ IntKind.i64.bits).toNat = 256 * n := by simp [IntKind.bits]; omega
  have e2 : ((m : Int) % 2 ^ IntKind.i64.bits).toNat = m := by simp [IntKind.bits]; omega
  have e3 : 256 * n ||| m = 256 * n + m := (Nat.two_pow_add_eq_or_of_lt (i := 8) hm n).symm
  rw [BitVec.toNat_or, BitVec.toNat_ofInt, BitVec.toNat_ofInt]
  rw [show (((2 ^ IntKind.i64.bits : Nat)) : Int) = 2 ^ IntKind.i64.bits from by rfl, e1, e2, e3, IntKind.wrap_i64]
  omega
theorem wx_shl16 {n : Nat} {tu : TypeId} (ho : o.op = .binOp .shl 3 x (.const (.int .u64 16)) tu) (hx : a.eval x = .int .i64 (n : Int)) (hn : n < 65536) : (execOp a.eval o).run Tryd.prog W = .ok (.value (.int .i64 ((65536 * n : Nat) : Int))) W := by
  unfold execOp
  simp only [ho, hx]
  go_simp
  rw [IntKind.wrap_i64]
  omega
theorem wx_or16 {n m r : Nat} (ho : o.op = .binOp .or 3 x y 3) (hx : a.eval x = .int .i64 ((65536 * n : Nat) : Int)) (hy : a.eval y = .int .i64 (m : Int)) (hn : n < 65536) (hm : m < 65536) (hr : n * 65536 + m = r) : (execOp a.eval o).run Tryd.prog W = .ok (.value (.int .i64 (r : Int))) W := by
  subst hr
  unfold execOp
  simp only [ho, hx, hy]
  go_simp
  simp only [bits]
  have e1 : (65536 * (n : Int) % 2 ^ IntKind.i64.bits).toNat = 65536 * n := by simp [IntKind.bits]; omega
  have e2 : ((m : Int) % 2 ^ IntKind.i64.bits).toNat = m := by simp [IntKind.bits]; omega
  have e3 : 65536 * n ||| m = 65536 * n + m := (Nat.two_pow_add_eq_or_of_lt (i := 16) hm n).symm
  rw [BitVec.toNat_or, BitVec.toNat_ofInt, BitVec.toNat_ofInt]
  rw [show (((2 ^ IntKind.i64.bits : Nat)) : Int) = 2 ^ IntKind.i64.bits from by rfl, e1, e2, e3, IntKind.wrap_i64]
  omega
theorem wx_q64 {n r : Nat} (ho : o.op = .binOp .quo 3 x (.const (.int .i64 64)) 3) (hx : a.eval x = .int .i64 (n : Int)) (hn : n ≤ 9223372036854775807) (hr : n / 64 = r) : (execOp a.eval o).run Tryd.prog W = .ok (.value (.int .i64 (r : Int))) W := by
  subst hr
  unfold execOp
  simp only [ho, hx]
  go_simp
  first | rfl | (rw [IntKind.wrap_i64]; omega)
theorem wx_q32 {n r : Nat} (ho : o.op = .binOp .quo 3 x (.const (.int .i64 32)) 3) (hx : a.eval x = .int .i64 (n : Int)) (hn : n ≤ 9223372036854775807) (hr : n / 32 = r) : (execOp a.eval o).run Tryd.prog W = .ok (.value (.int .i64 (r : Int))) W := by
  subst hr
  unfold execOp
  simp only [ho, hx]
  go_simp
  first | rfl | (rw [IntKind.wrap_i64]; omega)
theorem wx_q40 {n r : Nat} (ho : o.op = .binOp .quo 3 x (.const (.int .i64 40)) 3) (hx : a.eval x = .int .i64 (n : Int)) (hn : n ≤ 9223372036854775807) (hr : n / 40 = r) : (execOp a.eval o).run Tryd.prog W = .ok (.value (.int .i64 (r : Int))) W := by
  subst hr
  unfold execOp
  simp only [ho, hx]
  go_simp
  first | rfl | (rw [IntKind.wrap_i64]; omega)
end
def putB (bs : B8) (off : Nat) : Nat → Nat → B8
  | 0, _ => bs
  | k + 1, n => putB (bs.set (off + k) (UInt8.ofNat n)) off k (n / 256)
theorem num_snoc (l : B8) (x : UInt8) : Wl.num (l ++ [x]) = Wl.num l * 256 + x.toNat := by simp [Wl.num]
theorem num_lt (l : B8) : Wl.num l < 256 ^ l.length := by
  suffices h : ∀ (l : B8) (k : Nat), l.foldl (fun n x => n * 256 + x.toNat) k < (k + 1) * 256 ^ l.length by
    have := h l 0
    simpa [Wl.num] using this
  intro l
  induction l with
  | nil => intro k; simp
  | cons x l ih =>
    intro k
    rw [List.foldl_cons, List.length_cons, Nat.pow_succ]
    have h1 := ih (k * 256 + x.toNat)
    have h2 : x.toNat < 256 := x.toNat_lt
    have h3 : (k * 256 + x.toNat + 1) * 256 ^ l.length ≤ ((k + 1) * 256) * 256 ^ l.length := Nat.mul_le_mul_right _ (by omega)
    calc _ < _ := h1
      _ ≤ _ := h3
      _ = (k + 1) * (256 ^ l.length * 256) := by rw [Nat.mul_assoc, Nat.mul_comm 256]
theorem num_lt4 {l : B8} (h : l.length ≤ 4) : Wl.num l < 4294967296 := by
  have h1 := num_lt l
  have h2 : 256 ^ l.length ≤ 256 ^ 4 := Nat.pow_le_pow_right (by omega) h
  omega
theorem num_take {l : B8} {i : Nat} (h : i < l.length) : Wl.num (l.take (i + 1)) = Wl.num (l.take i) * 256 + (l.getD i 0).toNat := by
  rw [List.take_succ_eq_append_getElem h, num_snoc, List.getD_eq_getElem?_getD, List.getElem?_eq_getElem h]; rfl
set_option maxRecDepth 20000 in
set_option maxHeartbeats 4000000 in
theorem begin_walk (w : World) (s : Nat) (hs : s ≤ 1048576) : Calls Tryd.prog 28 #[.int .i64 (s : Int)] w fun e w' => e = .returned (.int .i64 ((2 + 64 * s : Nat) : Int)) ∧ w' = w := by
  go_enter Tryd.func28, Tryd.ntmps28
  go_upto_region 0 with fail
  refine wp_region_lit ?_
  refine nR (.int .i64 0) (gx_assign rfl rfl) ?_;simp only [zz]
  go_upto_region 1 with fail
  refine wp_region_lit ?_
  refine nR (.int .i64 (s : Int)) (exec_move rfl rfl) ?_;simp only [zz];refine nR (.int .i64 ((64 * s : Nat) : Int)) (ix_mul rfl rfl rfl (by omega) (by omega)) ?_;simp only [zz];refine nR (.int .i64 ((2 + 64 * s : Nat) : Int)) (ix_add rfl rfl rfl (by omega) (by omega)) ?_;simp only [zz];refine nR (.int .i64 ((2 + 64 * s : Nat) : Int)) (gx_assign rfl rfl) ?_;simp only [zz]
  go_wp2_with fail
  go_ret
  exact ⟨rfl, rfl⟩
set_option maxRecDepth 20000 in
set_option maxHeartbeats 4000000 in
theorem segmentOf_walk (w : World) (q : Nat) (hq : 2 ≤ q) (hs : q ≤ 1048576) : Calls Tryd.prog 35 #[.int .i64 (q : Int)] w fun e w' => e = .returned (.int .i64 (((q - 2) / 64 : Nat) : Int)) ∧ w' = w := by
  go_enter Tryd.func35, Tryd.ntmps35
  go_upto_region 0 with fail
  refine wp_region_lit ?_
  refine nR (.int .i64 0) (gx_assign rfl rfl) ?_;simp only [zz]
  go_upto_region 1 with fail
  refine wp_region_lit ?_
  refine nR (.int .i64 (q : Int)) (exec_move rfl rfl) ?_;simp only [zz];refine nR (.int .i64 ((q - 2 : Nat) : Int)) (ix_sub rfl rfl rfl (by omega) (by omega)) ?_;simp only [zz];refine nR (.int .i64 (((q - 2) / 64 : Nat) : Int)) (wx_q64 rfl rfl (by omega) rfl) ?_;simp only [zz];refine nR (.int .i64 (((q - 2) / 64 : Nat) : Int)) (gx_assign rfl rfl) ?_;simp only [zz]
  go_wp2_with fail
  go_ret
  exact ⟨rfl, rfl⟩
set_option maxRecDepth 20000 in
set_option maxHeartbeats 4000000 in
theorem other_walk (w : World) (q : Nat) (hq : q ≤ 1) : Calls Tryd.prog 46 #[.int .i64 (q : Int)] w fun e w' => e = .returned (.int .i64 ((1 - q : Nat) : Int)) ∧ w' = w := by
  go_enter Tryd.func46, Tryd.ntmps46
  go_upto_region 0 with fail
  refine wp_region_lit ?_
  refine nR (.int .i64 0) (gx_assign rfl rfl) ?_;simp only [zz]
  go_upto_region 1 with fail
  refine wp_region_lit ?_
  refine nR (.int .i64 (q : Int)) (exec_move rfl rfl) ?_;simp only [zz];refine nR (.int .i64 ((1 - q : Nat) : Int)) (ix_sub rfl rfl rfl (by omega) (by omega)) ?_;simp only [zz];refine nR (.int .i64 ((1 - q : Nat) : Int)) (gx_assign rfl rfl) ?_;simp only [zz]
  go_wp2_with fail
  go_ret
  exact ⟨rfl, rfl⟩
set_option maxRecDepth 20000 in
set_option maxHeartbeats 4000000 in
theorem put_walk (w : World) (g off k c n : Nat) (e : TypeId) (bs : B8) (hr : Row w g e bs) (hk : off + k ≤ bs.length) (hm : k ≤ 1000000) (hn : n ≤ 9223372036854775807) :
    Calls Tryd.prog 54 #[.slice (some ⟨g, off, none⟩) k c, .int .i64 (n : Int)] w fun r w' => r = .returned (.tuple #[]) ∧ Row w' g e (putB bs off k n) ∧ Turn (only g) w w' := by
  have HR := Lib.hid hr
  clear hr
  go_enter Tryd.func54, Tryd.ntmps54
  go_upto_region 0 with fail
  refine wp_region_lit ?_
  refine nR (.slice (some ⟨g, off, none⟩) k c) (exec_move rfl rfl) ?_;simp only [zz];refine nR (.int .i64 (k : Int)) (gx_len rfl rfl Tryd.underlying38) ?_;simp only [zz];refine nR (.int .i64 ((k : Int) - 1)) (ix_sub rfl rfl rfl (by omega) (by omega)) ?_;simp only [zz];refine nR (.int .i64 ((k : Int) - 1)) (gx_assign rfl rfl) ?_;simp only [zz]
  go_wp2_with fail
  go_loopg [1, 4] k (fun gk nv iv wr => ∃ (m : Nat) (z : Int) (cs : B8), iv = .int .i64 z ∧ z = (gk : Int) - 1 ∧ nv = .int .i64 (m : Int) ∧ m ≤ 9223372036854775807 ∧ gk ≤ k ∧ cs.length = bs.length ∧ putB cs off gk m = putB bs off k n ∧ Row wr g e cs ∧ Turn (only g) w wr)
  case atStart => exact ⟨n, _, bs, rfl, rfl, rfl, hn, Nat.le_refl _, rfl, rfl, HR.out, Turn.refl _ _⟩
  obtain ⟨m, z, cs, rfl, hz, rfl, hm9, hgk, hcl, hpt, hrw, htr⟩ := hrel
  have HZ := Lib.hid hz
  have HM9 := Lib.hid hm9
  have HGK := Lib.hid hgk
  have HCL := Lib.hid hcl
  have HPT := Lib.hid hpt
  have HRW := Lib.hid hrw
  have HTR := Lib.hid htr
  have yz : -1 ≤ z ∧ z ≤ 1000000 := by omega
  clear hz hm9 hgk hcl hpt hrw htr
  by_cases hlt : 0 ≤ z
  · obtain ⟨j, rfl⟩ := Int.eq_ofNat_of_zero_le hlt
    have HJ := Lib.hid (show gk = j + 1 by have := HZ.out; omega)
    have yj : j ≤ 1000000 := by omega
    have HLT := Lib.hid (show off + j < cs.length by have h1 := HJ.out; have h2 := HGK.out; have h3 := HCL.out; omega)
    have HJK := Lib.hid (show j < k by have h1 := HJ.out; have h2 := HGK.out; omega)
    go_upto_region 1 with fail
    refine wp_region_lit ?_
    refine nR (.int .i64 (j : Int)) (exec_move rfl rfl) ?_;simp only [zz];refine nR (.bool true) (ix_geq rfl rfl rfl (decide_eq_true hlt)) ?_;simp only [zz]
    go_upto_region 3 with fail
    refine wp_region_lit ?_
    refine nR (.slice (some ⟨g, off, none⟩) k c) (exec_move rfl rfl) ?_;simp only [zz];refine nR (.int .i64 (j : Int)) (exec_move rfl rfl) ?_;simp only [zz];refine nR (.int .i64 (m : Int)) (exec_move rfl rfl) ?_;simp only [zz];refine nR (.int .u8 (((UInt8.ofNat m).toNat : Nat) : Int)) (ix_i2b rfl rfl) ?_;simp only [zz];refine nR (.pointer (some ⟨g, off + j, none⟩)) (gx_iaddr (i := j) (sz := 1) rfl rfl rfl Tryd.underlying38 size_u8 HJK.out (by omega)) ?_;simp only [zz]
    refine wpList_storeU (off + j) (.int .u8 (((UInt8.ofNat m).toNat : Nat) : Int)) (wanted_none rfl) 5 (.tmp 16) (.tmp 15) rfl HRW.out rfl rfl (by show off + j < (byteCells cs).size; simp [byteCells]; exact HLT.out) ⟨rfl, rfl⟩ size_u8 ?_
    intro w2 hb ht
    rw [byteCells_set] at hb
    have HRW2 := Lib.hid (show Row w2 g e (cs.set (off + j) (UInt8.ofNat m)) from hb)
    have HT2 := Lib.hid ht
    clear hb ht
    simp only [zz]
    go_upto_region 4 with fail
    refine wp_region_lit ?_
    refine nR (.int .i64 (m : Int)) (exec_move rfl rfl) ?_;simp only [zz];refine nR (.int .i64 ((m / 256 : Nat) : Int)) (ix_shr8 rfl rfl HM9.out) ?_;simp only [zz];refine nR (.int .i64 ((m / 256 : Nat) : Int)) (gx_assign rfl rfl) ?_;simp only [zz]
    go_upto_region 2 with fail
    refine wp_region_lit ?_
    refine nR (.int .i64 (j : Int)) (exec_move rfl rfl) ?_;simp only [zz];refine nR (.int .i64 ((j : Int) - 1)) (ix_sub rfl rfl rfl (by omega) (by omega)) ?_;simp only [zz];refine nR (.int .i64 ((j : Int) - 1)) (gx_assign rfl rfl) ?_;simp only [zz]
    go_wp2_with fail
    go_roundg j
    case measure => have := HJ.out; omega
    case rel => exact ⟨m / 256, _, _, rfl, rfl, rfl, by have := HM9.out; omega, by have := HJK.out; omega, by rw [List.length_set]; exact HCL.out, by have h := HPT.out; rw [HJ.out] at h; exact h, HRW2.out, HTR.out.trans HT2.out fun _ _ e => e⟩
  · have hg0 : gk = 0 := by have := HZ.out; omega
    have HPE := Lib.hid (show cs = putB bs off k n by have h := HPT.out; rw [hg0] at h; exact h)
    go_upto_region 1 with fail
    refine wp_region_lit ?_
    refine nR (.int .i64 z) (exec_move rfl rfl) ?_;simp only [zz];refine nR (.bool false) (ix_geq rfl rfl rfl (decide_eq_false hlt)) ?_;simp only [zz]
    go_wp2_with fail
    go_end0
    refine ⟨rfl, ?_, HTR.out⟩
    rw [← HPE.out]
    exact HRW.out
set_option maxRecDepth 20000 in
set_option maxHeartbeats 4000000 in
theorem number_walk (w : World) (A : Option Addr) (k c : Nat) (bs : B8) (hb : Bs w A k bs) (hk : k ≤ 4) :
    Calls Tryd.prog 64 #[.slice A k c] w fun r w' => r = .returned (.int .i64 (Wl.num bs : Int)) ∧ Turn nowhere w w' := by
  have HB := Lib.hid hb
  have HL := Lib.hid hb.1
  clear hb
  go_enter Tryd.func64, Tryd.ntmps64
  go_upto_region 0 with fail
  refine wp_region_lit ?_
  refine nR (.int .i64 0) (gx_assign rfl rfl) ?_;simp only [zz]
  go_upto_region 1 with fail
  refine wp_region_lit ?_
  refine nR (.int .i64 0) (gx_assign rfl rfl) ?_;simp only [zz]
  go_upto_region 2 with fail
  refine wp_region_lit ?_
  refine nR (.slice A k c) (exec_move rfl rfl) ?_;simp only [zz];refine nR (.int .i64 (k : Int)) (gx_len rfl rfl Tryd.underlying38) ?_;simp only [zz];refine nR (.int .i64 0) (exec_move rfl rfl) ?_;simp only [zz]
  go_wp2_with fail
  go_loopg [3, 8] k (fun gk nv iv wr => ∃ (i : Nat), iv = .int .i64 (i : Int) ∧ i + gk = k ∧ nv = .int .i64 (Wl.num (bs.take i) : Int) ∧ Turn nowhere w wr)
  case atStart => exact ⟨0, rfl, by omega, rfl, Turn.refl _ _⟩
  obtain ⟨i, rfl, hgk, rfl, htr⟩ := hrel
  have HGK := Lib.hid hgk
  have HTR := Lib.hid htr
  have yi : (i : Int) ≤ 4 := by omega
  have HN := Lib.hid (show Wl.num (bs.take i) < 4294967296 from num_lt4 (by rw [List.length_take]; omega))
  clear hgk htr
  obtain ⟨m, hm⟩ : ∃ m, m = Wl.num (bs.take i) := ⟨_, rfl⟩
  rw [← hm] at HN ⊢
  have HM := Lib.hid hm
  clear hm
  have ym := HN.out
  by_cases hlt : i < k
  · have y3 : (i : Int) < (k : Int) := by omega
    have HLT := Lib.hid hlt
    obtain ⟨b, off, rfl, hc⟩ := HB.out.2.2 (by omega)
    have HC := Lib.hid (show wr.cell? ⟨b, off + i, none⟩ = some (.int .u8 ((bs.getD i 0).toNat : Int)) by rw [HTR.out.cell (World.block_lt_of_cell? _ _ (hc i hlt)) (fun e => e)]; exact hc i hlt)
    clear hc
    have HX := Lib.hid (show (bs.getD i 0).toNat < 256 from (bs.getD i 0).toNat_lt)
    have HS := Lib.hid (show m * 256 + (bs.getD i 0).toNat = Wl.num (bs.take (i + 1)) by rw [num_take (by have := HL.out; omega), HM.out])
    generalize (bs.getD i 0).toNat = x at *
    go_upto_region 3 with fail
    refine wp_region_lit ?_
    refine nR (.bool true) (ix_lss rfl rfl rfl (decide_eq_true y3)) ?_;simp only [zz]
    go_upto_region 4 with fail
    refine wp_region_lit ?_
    refine nR (.pointer (some ⟨b, off + i, none⟩)) (gx_iaddr (i := i) (sz := 1) rfl rfl rfl Tryd.underlying38 size_u8 HLT.out (by omega)) ?_;simp only [zz];refine nR (.int .u8 (x : Int)) (exec_load1 rfl rfl (by kernel_rfl) HC.out) ?_;simp only [zz];refine nR (.int .u8 (x : Int)) (gx_assign rfl rfl) ?_;simp only [zz]
    go_upto_region 5 with fail
    refine wp_region_lit ?_
    refine nR (.int .i64 (m : Int)) (exec_move rfl rfl) ?_;simp only [zz];refine nR (.int .i64 ((256 * m : Nat) : Int)) (wx_shl8 rfl rfl (by omega)) ?_;simp only [zz];refine nR (.int .u8 (x : Int)) (exec_move rfl rfl) ?_;simp only [zz];refine nR (.int .i64 (x : Int)) (ix_b2i HX.out rfl rfl) ?_;simp only [zz];refine nR (.int .i64 (Wl.num (bs.take (i + 1)) : Int)) (wx_or8 rfl rfl rfl (by omega) HX.out HS.out) ?_;simp only [zz];refine nR (.int .i64 (Wl.num (bs.take (i + 1)) : Int)) (gx_assign rfl rfl) ?_;simp only [zz]
    go_upto_region 6 with fail
    refine wp_region_lit ?_
    refine nR (.int .i64 ((i + 1 : Nat) : Int)) (ix_add rfl rfl rfl (by omega) (by omega)) ?_;simp only [zz];refine nR (.int .i64 ((i + 1 : Nat) : Int)) (exec_move rfl rfl) ?_;simp only [zz]
    go_wp2_with fail
    go_roundg (gk - 1)
    case measure => have := HGK.out; omega
    case rel => exact ⟨i + 1, rfl, by have := HGK.out; omega, rfl, HTR.out⟩
  · have HE := Lib.hid (show Wl.num bs = m by rw [HM.out, List.take_of_length_le (by have := HL.out; omega)])
    go_upto_region 3 with fail
    refine wp_region_lit ?_
    refine nR (.bool false) (ix_lss rfl rfl rfl (decide_eq_false (by omega))) ?_;simp only [zz]
    go_upto_region 7 with fail
    refine wp_region_lit ?_
    refine nR (.int .i64 (m : Int)) (exec_move rfl rfl) ?_;simp only [zz];refine nR (.int .i64 (m : Int)) (gx_assign rfl rfl) ?_;simp only [zz]
    go_wp2_with fail
    go_ret
    exact ⟨by rw [HE.out]; rfl, HTR.out⟩
end Go.Proofs.YtelipeoilcepbaaDoor
