/-
  Texts in one file: MsAs MsAt MsAu FdSpec FdQ FdR MsSpec. Conditions: the tables and the errors read as the program's text lays them.
-/
import Derived.Test.YtfnillibngijaaaGreatDoorJB9
import Derived.Lib.Bytealg
namespace Go.Proofs.YtfnillibngijaaaGreatDoor
open Go.RowKit Go.Extern.Stop Go.Stop Go.Extern
set_option maxRecDepth 20000
set_option linter.unusedVariables false
set_option linter.unusedSimpArgs false
theorem c_valueOfP (t : Addr) (w : World) : (callFunc 67 #[.iface 113 (.pointer (some t))]).run Tryz.prog w = .ok (.value (.agg #[.pointer (some ⟨20, 113, none⟩), .pointer (some ⟨w.heap.size, 0, none⟩), .int .u64 150])) (w.alloc (.cells #[.pointer (some t)] 113)) := by
  rw [@run_callFunc_extern Tryz.prog 67 _ (fun args => ReflectliteValue.unpack (args.getD 0 (.tuple #[]))) Tryz.func67 (by kernel_rfl) (by kernel_rfl) (by kernel_rfl) (by kernel_rfl)]
  kernel_rfl
theorem c_valueOfF (no : Int) (u : Value) (w : World) : (callFunc 67 #[.iface 111 (.agg #[.int .i64 no, u])]).run Tryz.prog w = .ok (.value (.agg #[.pointer (some ⟨20, 111, none⟩), .pointer (some ⟨w.heap.size, 0, none⟩), .int .u64 153])) (w.alloc (.cells #[.int .i64 no, u] 111)) := by
  rw [@run_callFunc_extern Tryz.prog 67 _ (fun args => ReflectliteValue.unpack (args.getD 0 (.tuple #[]))) Tryz.func67 (by kernel_rfl) (by kernel_rfl) (by kernel_rfl) (by kernel_rfl)]
  kernel_rfl
theorem c_typeP (a : Addr) (w : World) : (callFunc 68 #[.agg #[.pointer (some ⟨20, 113, none⟩), .pointer (some a), .int .u64 150]]).run Tryz.prog w = .ok (.value (.iface 160 (.agg #[.pointer (some ⟨20, 113, none⟩)]))) w := by
  rw [@run_callFunc_extern Tryz.prog 68 _ (ReflectliteValue.methodAny (ReflectliteValue.valueError "reflectlite.Value.Type" 0) (fun t _ _ _ => ReflectliteType.toType t)) Tryz.func68 (by kernel_rfl) (by kernel_rfl) (by kernel_rfl) (by kernel_rfl)]
  kernel_rfl
theorem c_methodKind (x : Value) (w : World) : (Go.method 367 160 (.agg #[x]) "Kind").run Tryz.prog w = .ok (156, x) w := by kernel_rfl
theorem c_kindP (w : World) : (callFunc 156 #[.pointer (some ⟨20, 113, none⟩)]).run Tryz.prog w = .ok (.value (.int .u8 22)) w := by
  rw [@run_callFunc_extern Tryz.prog 156 _ (ReflectliteType.abiMethod fun t => do pure (.int .u8 (← Rtype.kind t))) Tryz.func156 (by kernel_rfl) (by kernel_rfl) (by kernel_rfl) (by kernel_rfl)]
  kernel_rfl
theorem c_kindF (w : World) : (callFunc 156 #[.pointer (some ⟨20, 111, none⟩)]).run Tryz.prog w = .ok (.value (.int .u8 25)) w := by
  rw [@run_callFunc_extern Tryz.prog 156 _ (ReflectliteType.abiMethod fun t => do pure (.int .u8 (← Rtype.kind t))) Tryz.func156 (by kernel_rfl) (by kernel_rfl) (by kernel_rfl) (by kernel_rfl)]
  kernel_rfl
theorem c_methodElem (x : Value) (w : World) : (Go.method 367 160 (.agg #[x]) "Elem").run Tryz.prog w = .ok (167, .agg #[x]) w := by kernel_rfl
theorem c_methodImpl (x : Value) (w : World) : (Go.method 367 160 (.agg #[x]) "Implements").run Tryz.prog w = .ok (168, .agg #[x]) w := by kernel_rfl
theorem c_methodAssign (x : Value) (w : World) : (Go.method 367 160 (.agg #[x]) "AssignableTo").run Tryz.prog w = .ok (165, .agg #[x]) w := by kernel_rfl
theorem c_elemP (w : World) : (callFunc 167 #[.agg #[.pointer (some ⟨20, 113, none⟩)]]).run Tryz.prog w = .ok (.value (.iface 160 (.agg #[.pointer (some ⟨20, 111, none⟩)]))) w := by
  rw [@run_callFunc_extern Tryz.prog 167 _ (ReflectliteType.method ReflectliteType.elem) Tryz.func167 (by kernel_rfl) (by kernel_rfl) (by kernel_rfl) (by kernel_rfl)]
  kernel_rfl
theorem c_implF (w : World) : (callFunc 168 #[.agg #[.pointer (some ⟨20, 111, none⟩)], .iface 160 (.agg #[.pointer (some ⟨20, 78, none⟩)])]).run Tryz.prog w = .ok (.value (.bool true)) w := by
  rw [@run_callFunc_extern Tryz.prog 168 _ (ReflectliteType.relation "Implements" ReflectliteType.implements_) Tryz.func168 (by kernel_rfl) (by kernel_rfl) (by kernel_rfl) (by kernel_rfl)]
  kernel_rfl
theorem c_assignF (w : World) : (callFunc 165 #[.agg #[.pointer (some ⟨20, 111, none⟩)], .iface 160 (.agg #[.pointer (some ⟨20, 111, none⟩)])]).run Tryz.prog w = .ok (.value (.bool true)) w := by
  rw [@run_callFunc_extern Tryz.prog 165 _ (ReflectliteType.relation "AssignableTo" ReflectliteType.assignableTo) Tryz.func165 (by kernel_rfl) (by kernel_rfl) (by kernel_rfl) (by kernel_rfl)]
  kernel_rfl
theorem c_assignE (w : World) : (callFunc 165 #[.agg #[.pointer (some ⟨20, 237, none⟩)], .iface 160 (.agg #[.pointer (some ⟨20, 111, none⟩)])]).run Tryz.prog w = .ok (.value (.bool false)) w := by
  rw [@run_callFunc_extern Tryz.prog 165 _ (ReflectliteType.relation "AssignableTo" ReflectliteType.assignableTo) Tryz.func165 (by kernel_rfl) (by kernel_rfl) (by kernel_rfl) (by kernel_rfl)]
  kernel_rfl
theorem c_typeOfF (v : Value) (w : World) : (callFunc 71 #[.iface 111 v]).run Tryz.prog w = .ok (.value (.iface 160 (.agg #[.pointer (some ⟨20, 111, none⟩)]))) w := by
  rw [@run_callFunc_extern Tryz.prog 71 _ Extern.ReflectliteType.typeOf Tryz.func71 (by kernel_rfl) (by kernel_rfl) (by kernel_rfl) (by kernel_rfl)]
  kernel_rfl
theorem rlm (z : Sem Value) (f : TypeId → Addr → Nat → Nat → Sem Value) (v : Value) :
    ReflectliteValue.method z f #[v] = (do match ← ReflectliteValue.parts v with | none => z | some (t, a, fl) => f t a fl (fl % 32)) := rfl
theorem c_partsP (a : Addr) (w : World) : (ReflectliteValue.parts (.agg #[.pointer (some ⟨20, 113, none⟩), .pointer (some a), .int .u64 150])).run Tryz.prog w = .ok (some (113, a, 150)) w := by kernel_rfl
theorem c_isNil (a p : Addr) (W : World) (ha : W.cell? a = some (.pointer (some p))) : (callFunc 69 #[.agg #[.pointer (some ⟨20, 113, none⟩), .pointer (some a), .int .u64 150]]).run Tryz.prog W = .ok (.value (.bool false)) W := by
  rw [@run_callFunc_extern Tryz.prog 69 _ (ReflectliteValue.method (ReflectliteValue.valueError "reflectlite.Value.IsNil" 0) ReflectliteValue.isNil) Tryz.func69 (by kernel_rfl) (by kernel_rfl) (by kernel_rfl) (by kernel_rfl)]
  rw [rlm]
  simp only [Sem.run_bind, c_partsP, Result.andThen]
  simp [ReflectliteValue.isNil, loadVar, isAgg, underlying, Tryz.underlying113, ha, Result.andThen]
theorem c_elemOfP (w : World) : (Rtype.elem? 113).run Tryz.prog w = .ok (some 111) w := by kernel_rfl
theorem c_mkF (p : Addr) (w : World) : (ReflectliteValue.mk 111 p ReflectliteValue.flagAddr).run Tryz.prog w = .ok (.agg #[.pointer (some ⟨20, 111, none⟩), .pointer (some p), .int .u64 409]) w := by kernel_rfl
theorem c_elemV (a p : Addr) (W : World) (ha : W.cell? a = some (.pointer (some p))) : (callFunc 86 #[.agg #[.pointer (some ⟨20, 113, none⟩), .pointer (some a), .int .u64 150]]).run Tryz.prog W = .ok (.value (.agg #[.pointer (some ⟨20, 111, none⟩), .pointer (some p), .int .u64 409])) W := by
  rw [@run_callFunc_extern Tryz.prog 86 _ (ReflectliteValue.method (ReflectliteValue.valueError "reflectlite.Value.Elem" 0) ReflectliteValue.elem) Tryz.func86 (by kernel_rfl) (by kernel_rfl) (by kernel_rfl) (by kernel_rfl)]
  rw [rlm]
  simp only [Sem.run_bind, c_partsP, Result.andThen]
  simp [ReflectliteValue.elem, loadVar, isAgg, underlying, Tryz.underlying113, ha, Result.andThen, c_elemOfP, c_mkF]
theorem c_partsFa (a : Addr) (w : World) : (ReflectliteValue.parts (.agg #[.pointer (some ⟨20, 111, none⟩), .pointer (some a), .int .u64 409])).run Tryz.prog w = .ok (some (111, a, 409)) w := by kernel_rfl
theorem c_partsF (a : Addr) (w : World) : (ReflectliteValue.parts (.agg #[.pointer (some ⟨20, 111, none⟩), .pointer (some a), .int .u64 153])).run Tryz.prog w = .ok (some (111, a, 153)) w := by kernel_rfl
theorem c_directF (w : World) : (Rtype.directlyAssignable 111 111).run Tryz.prog w = .ok true w := by kernel_rfl
theorem rls (v x : Value) : ReflectliteValue.set #[v, x] = (do
    let (some (dst, a, fl), some (src, b, _)) := (← ReflectliteValue.parts v, ← ReflectliteValue.parts x)
      | unsupported (.noEntry "extern/(internal/reflectlite.Value).Set.zeroValue")
    if fl / ReflectliteValue.flagAddr % 2 == 0 then unsupported (.noEntry "extern/(internal/reflectlite.Value).Set.unaddressable")
    let val ← loadVar src b
    if ← Rtype.directlyAssignable dst src then storeVar dst a val
    else if ← Rtype.implements dst src then
      if (← Rtype.kind src) == 20 then
        match val with
        | .nilIface => unsupported (.noEntry "extern/reflectlite: a nil value of one interface type handed on as a value of another")
        | _ => storeVar dst a val
      else storeVar dst a (.iface src val)
    else panicString ("reflectlite.Set: value of type " ++ (← Rtype.spelt src) ++ " is not assignable to type " ++ (← Rtype.spelt dst))
    pure (.tuple #[])) := rfl
end Go.Proofs.YtfnillibngijaaaGreatDoor
namespace Go.Proofs.YtfnillibngijaaaGreatDoor
open Go.RowKit Go.Extern.Stop Go.Stop Go.Extern
set_option maxRecDepth 20000
set_option linter.unusedVariables false
set_option linter.unusedSimpArgs false
theorem heap_new {w : World} {o : Obj} {a : Nat} {x : Obj} (h : w.heap[a]? = some x) : (w.alloc o).heap[a]? = some x := by
  have hlt : a < w.heap.size := (Array.getElem?_eq_some_iff.1 h).1
  rw [← h]
  simp only [World.alloc, Array.getElem?_push, Nat.ne_of_lt hlt, if_false]
set_option maxHeartbeats 1000000 in
theorem is_fe (no : Int) (a b : Addr) (ca cb : Array Value) (ta tb : TypeId) (w : World) (ha : w.heap[a.block]? = some (.cells ca ta (0, 0))) (hb : w.heap[b.block]? = some (.cells cb tb (0, 0))) :
    Calls Tryz.prog 52 #[.iface 111 (.agg #[.int .i64 no, .iface 237 (.pointer (some a))]), .iface 237 (.pointer (some b))] w fun e w' => e = .returned (.bool (decide (a = b))) ∧ Turn nowhere w w' := by
  obtain ⟨i, hi, hcmp⟩ := Option.map_eq_some_iff.1 is_comp
  obtain ⟨j, hj, hjs⟩ := Option.map_eq_some_iff.1 is_size
  have tT := c_typeOf
  have cT := c_comparable
  have mR := is_methodC
  have nE := no_IsE
  have uE := no_UnE
  have vE := no_UsE
  have nF := no_IsF
  have uF := has_UnF
  have mU := method_UnF
  by_cases hab : a = b
  · subst hab
    rw [decide_eq_true rfl]
    have heq := run_eql_iface_ptr_same (P := Tryz.prog) (w.alloc (.cells #[.int .i64 no, .iface 237 (.pointer (some a))] 111)) a Tryz.underlying78 Tryz.underlying237 hi hcmp hj
    have hty := run_eql_iface_types (P := Tryz.prog) 111 237 (.agg #[.int .i64 no, .iface 237 (.pointer (some a))]) (.pointer (some a)) Tryz.underlying78 (by decide) w
    
    go_enter Tryz.func52, Tryz.ntmps52
    go_wp2
    refine wp_loop_rounds 2 ?_
    rw [rounds_succ]
    go_wp2
    rw [rounds_succ]
    go_wp2
    go_ret
    exact ⟨rfl, (Turn.refl nowhere w).alloc _⟩
  · rw [decide_eq_false hab]
    have heq := run_eql_iface_ptr_other (P := Tryz.prog) (w.alloc (.cells #[.int .i64 no, .iface 237 (.pointer (some a))] 111)) Tryz.underlying78 Tryz.underlying237 hi hcmp hj (by rw [hjs]; decide) (a := a) (b := b) hab (heap_new ha) (heap_new hb)
    have hty := run_eql_iface_types (P := Tryz.prog) 111 237 (.agg #[.int .i64 no, .iface 237 (.pointer (some a))]) (.pointer (some b)) Tryz.underlying78 (by decide) w
    clear hab
    go_enter Tryz.func52, Tryz.ntmps52
    go_wp2
    refine wp_loop_rounds 2 ?_
    rw [rounds_succ]
    go_wp2
    rw [rounds_succ]
    go_wp2
    go_ret
    exact ⟨rfl, (Turn.refl nowhere w).alloc _⟩
theorem as_nil (t : Value) (w : World) :
    Calls Tryz.prog 50 #[.nilIface, t] w fun e w' => e = .returned (.bool false) ∧ w' = w := by
  go_enter Tryz.func50, Tryz.ntmps50
  go_wp2
  go_ret
  exact ⟨rfl, rfl⟩
set_option maxHeartbeats 1000000 in
theorem as_miss (a : Addr) (t : Addr) (w : World) (hg : w.cell? ⟨9, 0, none⟩ = some (.iface 160 (.agg #[.pointer (some ⟨20, 78, none⟩)]))) :
    Calls Tryz.prog 50 #[.iface 237 (.pointer (some a)), .iface 113 (.pointer (some t))] w fun e w' => e = .returned (.bool false) ∧ Turn nowhere w w' := by
  have x1 := c_valueOfP
  have x2 := c_typeP
  have x3 := c_methodKind
  have x4 := c_kindP
  have x5 := c_kindF
  have x6 := c_methodElem
  have x7 := c_methodImpl
  have x8 := c_methodAssign
  have x9 := c_elemP
  have y1 := c_implF
  have y2 := c_assignE
  have y3 := c_typeOf
  have y4 := c_isNil ⟨w.heap.size, 0, none⟩ t ((w.alloc (.cells #[.pointer (some t)] 113)).alloc (.cells #[.pointer (some ⟨20, 113, none⟩), .pointer (some ⟨w.heap.size, 0, none⟩), .int .u64 150] 136)) (by simp)
  have nE := no_AsE
  have uE := no_UnE
  have vE := no_UsE
  have hlt : 9 < w.heap.size := World.block_lt_of_cell? _ _ hg
  have hg2 : ((w.alloc (.cells #[.pointer (some t)] 113)).alloc (.cells #[.pointer (some ⟨20, 113, none⟩), .pointer (some ⟨w.heap.size, 0, none⟩), .int .u64 150] 136)).cell? ⟨9, 0, none⟩ = some (.iface 160 (.agg #[.pointer (some ⟨20, 78, none⟩)])) := by
    rw [World.cell?_alloc_lt _ _ ⟨9, 0, none⟩ (by simp; omega), World.cell?_alloc_lt _ _ ⟨9, 0, none⟩ hlt]; exact hg
  clear hlt
  go_enter Tryz.func50, Tryz.ntmps50
  go_wp2
  refine wp_loop_rounds 1 ?_
  rw [rounds_succ]
  go_wp2
  go_ret
  exact ⟨rfl, (((Turn.refl nowhere w).alloc _).alloc _).alloc _⟩
end Go.Proofs.YtfnillibngijaaaGreatDoor
namespace Go.Proofs.YtfnillibngijaaaGreatDoor
open Go.RowKit Go.Extern.Stop Go.Stop Go.Extern
set_option maxRecDepth 20000
set_option linter.unusedVariables false
set_option linter.unusedSimpArgs false
theorem sizeF : (Tryz.prog.info? 111).map (·.size) = some 2 := by kernel_rfl
theorem c_set (t b : Nat) (no : Int) (u : Value) (old : Array Value) (W : World) (hu : u.oneCell' = true) (ht : Blk W t 111 old) (ho : old.size = 2) (hb : Blk W b 111 #[.int .i64 no, u]) :
    (callFunc 87 #[.agg #[.pointer (some ⟨20, 111, none⟩), .pointer (some ⟨t, 0, none⟩), .int .u64 409], .agg #[.pointer (some ⟨20, 111, none⟩), .pointer (some ⟨b, 0, none⟩), .int .u64 153]]).run Tryz.prog W = .ok (.value (.tuple #[])) (W.setRow t #[.int .i64 no, u]) := by
  rw [@run_callFunc_extern Tryz.prog 87 _ ReflectliteValue.set Tryz.func87 (by kernel_rfl) (by kernel_rfl) (by kernel_rfl) (by kernel_rfl)]
  rw [rls]
  have l1 := run_loadVar_row (P := Tryz.prog) W b 111 111 _ _ _ hb Tryz.underlying111 rfl (by rw [sizeF]; rfl)
  have s1 := run_storeVar_row (P := Tryz.prog) W t 111 111 old #[.int .i64 no, u] ht (by rw [sizeF]; rfl) ho (by simp [hu]; rfl)
  simp only [Sem.run_bind, c_partsFa, c_partsF, Result.andThen]
  simp [ReflectliteValue.flagAddr, l1, c_directF, s1, Result.andThen]
set_option maxHeartbeats 1000000 in
theorem as_hit (no : Int) (u : Value) (t : Nat) (old : Array Value) (w : World) (hu : u.oneCell' = true) (hg : w.cell? ⟨9, 0, none⟩ = some (.iface 160 (.agg #[.pointer (some ⟨20, 78, none⟩)]))) (ht : Blk w t 111 old) (ho : old.size = 2) :
    Calls Tryz.prog 50 #[.iface 111 (.agg #[.int .i64 no, u]), .iface 113 (.pointer (some ⟨t, 0, none⟩))] w fun e w' => e = .returned (.bool true) ∧ Blk w' t 111 #[.int .i64 no, u] ∧ Turn (only t) w w' := by
  have x1 := c_valueOfP
  have x0 := c_valueOfF
  have x2 := c_typeP
  have x3 := c_methodKind
  have x4 := c_kindP
  have x5 := c_kindF
  have x6 := c_methodElem
  have x7 := c_methodImpl
  have x8 := c_methodAssign
  have x9 := c_elemP
  have y1 := c_implF
  have y2 := c_assignF
  have y3 := c_typeOfF
  have y4 := c_isNil ⟨w.heap.size, 0, none⟩ ⟨t, 0, none⟩ ((w.alloc (.cells #[.pointer (some ⟨t, 0, none⟩)] 113)).alloc (.cells #[.pointer (some ⟨20, 113, none⟩), .pointer (some ⟨w.heap.size, 0, none⟩), .int .u64 150] 136)) (by simp)
  have y5 := c_elemV ⟨w.heap.size, 0, none⟩ ⟨t, 0, none⟩ (((w.alloc (.cells #[.pointer (some ⟨t, 0, none⟩)] 113)).alloc (.cells #[.pointer (some ⟨20, 113, none⟩), .pointer (some ⟨w.heap.size, 0, none⟩), .int .u64 150] 136)).alloc (.cells #[.pointer (some ⟨20, 113, none⟩), .pointer (some ⟨w.heap.size, 0, none⟩), .int .u64 150] 136)) (by rw [World.cell?_alloc_lt _ _ ⟨w.heap.size, 0, none⟩ (by simp; omega)]; simp)
  have hb4 : Blk ((((w.alloc (.cells #[.pointer (some ⟨t, 0, none⟩)] 113)).alloc (.cells #[.pointer (some ⟨20, 113, none⟩), .pointer (some ⟨w.heap.size, 0, none⟩), .int .u64 150] 136)).alloc (.cells #[.pointer (some ⟨20, 113, none⟩), .pointer (some ⟨w.heap.size, 0, none⟩), .int .u64 150] 136)).alloc (.cells #[.int .i64 no, u] 111)) t 111 old := (((ht.alloc _).alloc _).alloc _).alloc _
  have y6 := c_set t (w.heap.size + 1 + 1 + 1) no u old ((((w.alloc (.cells #[.pointer (some ⟨t, 0, none⟩)] 113)).alloc (.cells #[.pointer (some ⟨20, 113, none⟩), .pointer (some ⟨w.heap.size, 0, none⟩), .int .u64 150] 136)).alloc (.cells #[.pointer (some ⟨20, 113, none⟩), .pointer (some ⟨w.heap.size, 0, none⟩), .int .u64 150] 136)).alloc (.cells #[.int .i64 no, u] 111)) hu hb4 ho (by
    have := Blk.new (((w.alloc (.cells #[.pointer (some ⟨t, 0, none⟩)] 113)).alloc (.cells #[.pointer (some ⟨20, 113, none⟩), .pointer (some ⟨w.heap.size, 0, none⟩), .int .u64 150] 136)).alloc (.cells #[.pointer (some ⟨20, 113, none⟩), .pointer (some ⟨w.heap.size, 0, none⟩), .int .u64 150] 136)) 111 #[.int .i64 no, u]
    simpa using this)
  have hlt : 9 < w.heap.size := World.block_lt_of_cell? _ _ hg
  have hg2 : ((w.alloc (.cells #[.pointer (some ⟨t, 0, none⟩)] 113)).alloc (.cells #[.pointer (some ⟨20, 113, none⟩), .pointer (some ⟨w.heap.size, 0, none⟩), .int .u64 150] 136)).cell? ⟨9, 0, none⟩ = some (.iface 160 (.agg #[.pointer (some ⟨20, 78, none⟩)])) := by
    rw [World.cell?_alloc_lt _ _ ⟨9, 0, none⟩ (by simp; omega), World.cell?_alloc_lt _ _ ⟨9, 0, none⟩ hlt]; exact hg
  have HT := Lib.hid ht
  have HB4 := Lib.hid hb4
  clear hlt ht hb4 hu ho
  go_enter Tryz.func50, Tryz.ntmps50
  go_wp2
  refine wp_loop_rounds 1 ?_
  rw [rounds_succ]
  go_wp2
  go_ret
  refine ⟨rfl, setRow_heap _ t _ _ _ _ HB4.out, ?_⟩
  refine Turn.trans ((((((Turn.refl nowhere w).alloc _).alloc _).alloc _).alloc _).mono fun _ _ e => e.elim) (G := only t) ⟨rfl, rfl, rfl, by simp, fun k hk hn => setRow_other _ t k _ hn⟩ fun _ _ e => e
end Go.Proofs.YtfnillibngijaaaGreatDoor
namespace Go.Proofs.YtfnillibngijaaaGreatDoor.Fdd
set_option linter.unusedVariables false
def dec : List UInt8 := [48, 49, 50, 51, 52, 53, 54, 55, 56, 57]
def hexs : List UInt8 := [48, 49, 50, 51, 52, 53, 54, 55, 56, 57, 97, 98, 99, 100, 101, 102]
def sgn : List UInt8 := [48, 49, 50, 51, 52, 53, 54, 55, 56, 57, 65, 66, 67, 68, 69, 70, 71, 72, 73, 74, 75, 76, 77, 78, 79, 80, 81, 82, 83, 84, 85, 86, 87, 88, 89, 90, 32]
def mk : List UInt8 := [67, 68]
def hexU : List UInt8 := [48, 49, 50, 51, 52, 53, 54, 55, 56, 57, 65, 66, 67, 68, 69, 70]
def eDec : List UInt8 := [240, 241, 242, 243, 244, 245, 246, 247, 248, 249]
def eSgn : List UInt8 := [240, 241, 242, 243, 244, 245, 246, 247, 248, 249, 193, 194, 195, 196, 197, 198, 199, 200, 201, 209, 210, 211, 212, 213, 214, 215, 216, 217, 226, 227, 228, 229, 230, 231, 232, 233, 64]
def eMk : List UInt8 := [195, 196]
/-- what stands for each sort of characters -/
structure Rw where
  d : List UInt8
  h : List UInt8
  s : List UInt8
  m : List UInt8
def rws : Nat → Rw
  | 1 => ⟨dec, hexU, sgn, mk⟩
  | 2 => ⟨[], [], sgn, mk⟩
  | 3 => ⟨eDec, [], eSgn, eMk⟩
  | _ => ⟨[], [], [], []⟩
structure Pt where
  n : Nat
  chars : List UInt8
  stands : List UInt8
structure Fm where
  kind : Int
  size : Int
  code : Int
def ptsOf (kind code : Int) (n : Nat) : List Pt :=
  if kind = 3 then [⟨n, sgn, (rws code.toNat).s⟩]
  else if kind = 4 then [⟨2 * n, hexs, (rws code.toNat).h⟩]
  else if kind = 5 then [⟨1, mk, (rws code.toNat).m⟩, ⟨n, dec, (rws code.toNat).d⟩]
  else [⟨n, dec, (rws code.toNat).d⟩]
/-- all characters are of a sort -/
def onlyOf (l cs : List UInt8) : Bool := l.all (cs.contains ·)
def Fm.may (f : Fm) : Bool := decide (1 ≤ f.kind ∧ f.kind ≤ 5) && (decide (1 ≤ f.code ∧ f.code ≤ 3) && decide (1 ≤ f.size ∧ f.size ≤ 64))
def rightAll : List Pt → List UInt8 → Bool
  | [], t => t == []
  | p :: r, t => decide (p.n ≤ t.length) && (onlyOf (t.take p.n) p.chars && rightAll r (t.drop p.n))
def Fm.right (f : Fm) (t : List UInt8) : Bool :=
  if f.kind = 2 then decide (1 ≤ t.length ∧ (t.length : Int) ≤ f.size) && rightAll (ptsOf 2 f.code t.length) t else rightAll (ptsOf f.kind f.code f.size.toNat) t
def Fm.check (f : Fm) (t : List UInt8) : Int := if f.may = true then if f.right t = true then 0 else 41 else 40
/-- two characters a byte -/
def pack (chars : List UInt8) : List UInt8 → List UInt8
  | a :: b :: r => UInt8.ofNat (16 * chars.idxOf a + chars.idxOf b) :: pack chars r
  | _ => []
def padded (t : List UInt8) : List UInt8 := if t.length % 2 = 1 then 48 :: t else t
def unpack (chars : List UInt8) : List UInt8 → List UInt8
  | [] => []
  | x :: r => chars.getD (x.toNat / 16) 0 :: chars.getD (x.toNat % 16) 0 :: unpack chars r
def packOk (chars : List UInt8) (b : List UInt8) : Bool := b.all fun x => decide (x.toNat / 16 < chars.length) && decide (x.toNat % 16 < chars.length)
def Pt.size (p : Pt) : Nat := if p.stands = [] then (p.n + 1) / 2 else p.n
def one (from_ to_ : List UInt8) (c : UInt8) : UInt8 := to_.getD (from_.idxOf c) 0
def Pt.enc (p : Pt) (t : List UInt8) : List UInt8 := if p.stands = [] then pack p.chars (padded t) else t.map (one p.chars p.stands)
def unpacked (chars b : List UInt8) (n : Nat) : Option (List UInt8) :=
  if packOk chars b = true then if n % 2 = 1 ∧ (unpack chars b).getD 0 0 ≠ 48 then none else some ((unpack chars b).drop ((unpack chars b).length - n)) else none
def Pt.dec (p : Pt) (b : List UInt8) : Option (List UInt8) :=
  if p.stands = [] then unpacked p.chars b p.n else if onlyOf b p.stands = true then some (b.map (one p.stands p.chars)) else none
def encAll : List Pt → List UInt8 → List UInt8
  | [], _ => []
  | p :: r, t => p.enc (t.take p.n) ++ encAll r (t.drop p.n)
def sizeAll : List Pt → Nat
  | [] => 0
  | p :: r => p.size + sizeAll r
def decAll : List Pt → List UInt8 → Option (List UInt8)
  | [], _ => some []
  | p :: r, b => match p.dec (b.take p.size) with
    | none => none
    | some t => (decAll r (b.drop p.size)).map (t ++ ·)
def takeAll (ps : List Pt) (b : List UInt8) : Except Int (List UInt8 × List UInt8) :=
  if b.length < sizeAll ps then .error 43 else match decAll ps b with
    | none => .error 42
    | some t => .ok (t, b.drop (sizeAll ps))
/-- a number of two digits -/
def two (n : Nat) : List UInt8 := [UInt8.ofNat (48 + n / 10), UInt8.ofNat (48 + n % 10)]
def val (t : List UInt8) : Nat := t.foldl (fun a c => a * 10 + (c.toNat - 48)) 0
def Fm.put (f : Fm) (t : List UInt8) : List UInt8 :=
  if f.kind = 2 then encAll (ptsOf 1 f.code 2) (two t.length) ++ encAll (ptsOf 2 f.code t.length) t else encAll (ptsOf f.kind f.code f.size.toNat) t
def Fm.take (f : Fm) (b : List UInt8) : Except Int (List UInt8 × List UInt8) :=
  if f.may = true then
    if f.kind = 2 then match takeAll (ptsOf 1 f.code 2) b with
      | .error e => .error e
      | .ok (t, r) => if 1 ≤ val t ∧ (val t : Int) ≤ f.size then takeAll (ptsOf 2 f.code (val t)) r else .error 42
    else takeAll (ptsOf f.kind f.code f.size.toNat) b
  else .error 40
theorem index_mem : ∀ (l : List UInt8) (c : UInt8), c ∈ l → Lib.indexByte l c = (l.idxOf c : Int)
  | [], c, h => by cases h
  | b :: l, c, h => by
    unfold Lib.indexByte
    rw [List.idxOf_cons]
    by_cases e : b = c
    · subst e
      simp
    · have e' : (b == c) = false := by simpa using e
      have hm : c ∈ l := by
        rcases List.mem_cons.1 h with h | h
        · exact absurd h.symm e
        · exact h
      have ih := index_mem l c hm
      rw [e', ih]
      have : (((l.idxOf c : Nat) : Int) == -1) = false := by simp
      simp [this]
theorem onlyOf_mem {l cs : List UInt8} (h : onlyOf l cs = true) {c : UInt8} (hc : c ∈ l) : c ∈ cs := by
  simpa using List.all_eq_true.1 h c hc
theorem idx_lt {cs : List UInt8} {c : UInt8} (h : c ∈ cs) : cs.idxOf c < cs.length := List.idxOf_lt_length_iff.2 h
end Go.Proofs.YtfnillibngijaaaGreatDoor.Fdd
namespace Go.Proofs.YtfnillibngijaaaGreatDoor.Fdd
set_option linter.unusedVariables false
theorem onlyOf_of {l cs : List UInt8} (h : ∀ c ∈ l, c ∈ cs) : onlyOf l cs = true := by
  unfold onlyOf
  rw [List.all_eq_true]
  intro c hc
  simpa using h c hc
theorem one_inv {a b : List UInt8} (ha : a.Nodup) (hb : b.Nodup) (hl : a.length = b.length) {x : UInt8} (hx : x ∈ a) : one a b x ∈ b ∧ one b a (one a b x) = x := by
  have hi : a.idxOf x < a.length := idx_lt hx
  have hib : a.idxOf x < b.length := by omega
  have e1 : one a b x = b[a.idxOf x] := by
    unfold one
    rw [List.getD_eq_getElem?_getD, List.getElem?_eq_getElem hib]
    rfl
  have e2 : b.idxOf (one a b x) = a.idxOf x := by
    rw [e1]
    exact List.Nodup.idxOf_getElem hb _ hib
  refine ⟨by rw [e1]; exact List.getElem_mem _, ?_⟩
  show a.getD (b.idxOf (one a b x)) 0 = x
  rw [e2, List.getD_eq_getElem?_getD, List.getElem?_eq_getElem hi]
  exact List.getElem_idxOf hi
/-- what a part must be for its code to be one to one -/
structure GM (p : Pt) : Prop where
  c : p.chars.Nodup
  s : p.stands.Nodup
  z : p.stands = [] → p.chars[0]? = some 48 ∧ p.chars.length ≤ 16
  l : p.stands ≠ [] → p.stands.length = p.chars.length
theorem byte_of {a b : Nat} (ha : a < 16) (hb : b < 16) : (UInt8.ofNat (16 * a + b)).toNat = 16 * a + b := by
  rw [UInt8.toNat_ofNat']
  omega
theorem unpack_pack {ch : List UInt8} (hl : ch.length ≤ 16) : ∀ T : List UInt8, T.length % 2 = 0 → (∀ c ∈ T, c ∈ ch) → unpack ch (pack ch T) = T ∧ packOk ch (pack ch T) = true ∧ (pack ch T).length = T.length / 2
  | [], _, _ => ⟨rfl, rfl, rfl⟩
  | [_], h, _ => by simp at h
  | a :: b :: r, h, hm => by
    have ih := unpack_pack hl r (by simp at h; omega) fun c hc => hm c (List.mem_cons_of_mem _ (List.mem_cons_of_mem _ hc))
    have ha := hm a (List.mem_cons_self ..)
    have hb := hm b (List.mem_cons_of_mem _ (List.mem_cons_self ..))
    have ia := idx_lt ha
    have ib := idx_lt hb
    have hx := byte_of (a := ch.idxOf a) (b := ch.idxOf b) (by omega) (by omega)
    have h1 : (16 * ch.idxOf a + ch.idxOf b) / 16 = ch.idxOf a := by omega
    have h2 : (16 * ch.idxOf a + ch.idxOf b) % 16 = ch.idxOf b := by omega
    have g : ∀ c, c ∈ ch → ch.getD (ch.idxOf c) 0 = c := fun c hc => by
      rw [List.getD_eq_getElem?_getD, List.getElem?_eq_getElem (idx_lt hc)]
      exact List.getElem_idxOf (idx_lt hc)
    refine ⟨?_, ?_, ?_⟩
    · simp only [pack, unpack, hx, h1, h2, ih.1, g a ha, g b hb]
    · have h3 := ih.2.1
      unfold packOk at h3 ⊢
      rw [pack, List.all_cons, hx, h1, h2, decide_eq_true ia, decide_eq_true ib, h3]
      rfl
    · simp only [pack, List.length_cons, ih.2.2]
      omega
theorem padded_two (t : List UInt8) : (padded t).length % 2 = 0 ∧ (padded t).length / 2 = (t.length + 1) / 2 := by
  unfold padded
  by_cases h : t.length % 2 = 1
  · rw [if_pos h, List.length_cons]
    omega
  · rw [if_neg h]
    omega
/-- written, and read again -/
theorem enc_dec {p : Pt} (h : GM p) {t : List UInt8} (ht : onlyOf t p.chars = true) (hn : t.length = p.n) : (p.enc t).length = p.size ∧ p.dec (p.enc t) = some t := by
  unfold Pt.enc Pt.size Pt.dec
  by_cases hs : p.stands = []
  · obtain ⟨h0, h16⟩ := h.z hs
    rw [if_pos hs, if_pos hs, if_pos hs]
    have h48 : 48 ∈ p.chars := List.mem_of_getElem? h0
    have hm : ∀ c ∈ padded t, c ∈ p.chars := by
      intro c hc
      unfold padded at hc
      split at hc
      · rcases List.mem_cons.1 hc with rfl | hc
        · exact h48
        · exact onlyOf_mem ht hc
      · exact onlyOf_mem ht hc
    obtain ⟨h1, h2, h3⟩ := unpack_pack h16 (padded t) (padded_two t).1 hm
    refine ⟨by rw [h3, (padded_two t).2, hn], ?_⟩
    unfold unpacked
    rw [if_pos h2, h1]
    unfold padded
    by_cases ho : t.length % 2 = 1
    · rw [if_pos ho, if_neg (by simp), List.length_cons, ← hn]
      rw [show t.length + 1 - t.length = 1 from by omega]
      rfl
    · rw [if_neg ho, if_neg (by rw [← hn]; intro h; exact ho h.1), hn, Nat.sub_self, List.drop_zero]
  · rw [if_neg hs, if_neg hs, if_neg hs]
    have hl := h.l hs
    refine ⟨by rw [List.length_map, hn], ?_⟩
    have hin : ∀ c ∈ t, one p.chars p.stands c ∈ p.stands ∧ one p.stands p.chars (one p.chars p.stands c) = c := fun c hc => one_inv h.c h.s hl.symm (onlyOf_mem ht hc)
    rw [if_pos (onlyOf_of fun c hc => by
      obtain ⟨d, hd, rfl⟩ := List.mem_map.1 hc
      exact (hin d hd).1)]
    rw [List.map_map]
    congr 1
    conv => rhs; rw [← List.map_id t]
    exact List.map_congr_left fun c hc => (hin c hc).2
theorem enc_all : ∀ (ps : List Pt) (t rest : List UInt8), (∀ p ∈ ps, GM p) → rightAll ps t = true → (encAll ps t).length = sizeAll ps ∧ decAll ps (encAll ps t ++ rest) = some t
  | [], t, rest, _, h => by
    have : t = [] := by simpa [rightAll] using h
    subst this
    exact ⟨rfl, rfl⟩
  | p :: r, t, rest, hg, h => by
    have h' : p.n ≤ t.length ∧ onlyOf (t.take p.n) p.chars = true ∧ rightAll r (t.drop p.n) = true := by simpa [rightAll] using h
    obtain ⟨h1, h2, h3⟩ := h'
    obtain ⟨e1, e2⟩ := enc_dec (hg p (List.mem_cons_self ..)) h2 (by rw [List.length_take]; omega)
    obtain ⟨e3, e4⟩ := enc_all r (t.drop p.n) rest (fun q hq => hg q (List.mem_cons_of_mem _ hq)) h3
    refine ⟨by rw [encAll, List.length_append, e1, e3]; rfl, ?_⟩
    unfold decAll
    rw [encAll, List.append_assoc, List.take_append_of_le_length (by omega), List.take_of_length_le (by omega), e2]
    simp only []
    rw [List.drop_append_of_le_length (by omega), List.drop_of_length_le (by omega), List.nil_append, e4]
    simp
theorem take_ok {ps : List Pt} (hg : ∀ p ∈ ps, GM p) {t rest : List UInt8} (h : rightAll ps t = true) : takeAll ps (encAll ps t ++ rest) = .ok (t, rest) := by
  obtain ⟨h1, h2⟩ := enc_all ps t rest hg h
  unfold takeAll
  rw [if_neg (by rw [List.length_append]; omega), h2]
  simp only []
  rw [List.drop_append_of_le_length (by omega), List.drop_of_length_le (by omega), List.nil_append]
end Go.Proofs.YtfnillibngijaaaGreatDoor.Fdd
namespace Go.Proofs.YtfnillibngijaaaGreatDoor.Fdd
set_option linter.unusedVariables false
theorem may_form {f : Fm} (h : f.may = true) : ∃ k s c : Nat, f = ⟨(k : Int), (s : Int), (c : Int)⟩ ∧ (1 ≤ k ∧ k ≤ 5) ∧ (1 ≤ c ∧ c ≤ 3) ∧ (1 ≤ s ∧ s ≤ 64) := by
  obtain ⟨k, s, c⟩ := f
  simp only [Fm.may, Bool.and_eq_true, decide_eq_true_eq] at h
  obtain ⟨h1, h2, h3⟩ := h
  refine ⟨k.toNat, s.toNat, c.toNat, ?_, by omega, by omega, by omega⟩
  rw [Int.toNat_of_nonneg (by omega), Int.toNat_of_nonneg (by omega), Int.toNat_of_nonneg (by omega)]
def gmB (p : Pt) : Bool := decide p.chars.Nodup && decide p.stands.Nodup && (!decide (p.stands = []) || (decide (p.chars[0]? = some 48) && decide (p.chars.length ≤ 16))) && (decide (p.stands = []) || decide (p.stands.length = p.chars.length))
theorem gm_of {p : Pt} (h : gmB p = true) : GM p := by
  unfold gmB at h
  simp only [Bool.and_eq_true, Bool.or_eq_true, decide_eq_true_eq, Bool.not_eq_true', decide_eq_false_iff_not] at h
  obtain ⟨⟨⟨h1, h2⟩, h3⟩, h4⟩ := h
  exact ⟨h1, h2, fun e => h3.resolve_left fun h => h e, fun e => h4.resolve_left e⟩
theorem gm_n {n m : Nat} {ch st : List UInt8} (h : gmB ⟨m, ch, st⟩ = true) : GM ⟨n, ch, st⟩ := gm_of h
theorem pts_gm {k : Int} {c n : Nat} (hc : 1 ≤ c ∧ c ≤ 3) : ∀ p ∈ ptsOf k (c : Int) n, GM p := by
  have hcc : c = 1 ∨ c = 2 ∨ c = 3 := by omega
  intro p hp
  unfold ptsOf at hp
  rw [Int.toNat_natCast] at hp
  split at hp
  · simp only [List.mem_singleton] at hp
    subst hp
    rcases hcc with rfl | rfl | rfl <;> exact gm_n (m := 0) (by decide)
  · split at hp
    · simp only [List.mem_singleton] at hp
      subst hp
      rcases hcc with rfl | rfl | rfl <;> exact gm_n (m := 0) (by decide)
    · split at hp
      · simp only [List.mem_cons, List.not_mem_nil, or_false] at hp
        rcases hp with rfl | rfl
        · rcases hcc with rfl | rfl | rfl <;> exact gm_n (m := 0) (by decide)
        · rcases hcc with rfl | rfl | rfl <;> exact gm_n (m := 0) (by decide)
      · simp only [List.mem_singleton] at hp
        subst hp
        rcases hcc with rfl | rfl | rfl <;> exact gm_n (m := 0) (by decide)
theorem two_len (n : Nat) : (two n).length = 2 := rfl
theorem two_ok {n : Nat} (h : n ≤ 99) : val (two n) = n ∧ onlyOf (two n) dec = true := by
  have key : ∀ n : Fin 100, val (two n.val) = n.val ∧ onlyOf (two n.val) dec = true := by decide +kernel
  exact key ⟨n, by omega⟩
theorem num_right (c : Int) (t : List UInt8) : rightAll (ptsOf 1 c 2) t = true ↔ t.length = 2 ∧ onlyOf t dec = true := by
  have e : ptsOf 1 c 2 = [⟨2, dec, (rws c.toNat).d⟩] := rfl
  rw [e]
  unfold rightAll rightAll
  simp only [Bool.and_eq_true, decide_eq_true_eq, beq_iff_eq, List.drop_eq_nil_iff]
  constructor
  · rintro ⟨h1, h2, h3⟩
    rw [List.take_of_length_le h3] at h2
    exact ⟨by omega, h2⟩
  · rintro ⟨h1, h2⟩
    rw [List.take_of_length_le (by omega)]
    exact ⟨by omega, h2, by omega⟩
theorem right_len : ∀ (ps : List Pt) (t : List UInt8), rightAll ps t = true → t.length = (ps.map (·.n)).sum
  | [], t, h => by
    have : t = [] := by simpa [rightAll] using h
    subst this
    rfl
  | p :: r, t, h => by
    have h' : p.n ≤ t.length ∧ onlyOf (t.take p.n) p.chars = true ∧ rightAll r (t.drop p.n) = true := by simpa [rightAll] using h
    have ih := right_len r (t.drop p.n) h'.2.2
    rw [List.length_drop] at ih
    simp only [List.map_cons, List.sum_cons]
    omega
section
variable {k s c : Nat} {t b rest : List UInt8}
/-- a form in natural numbers -/
def nf (k s c : Nat) : Fm := ⟨(k : Int), (s : Int), (c : Int)⟩
theorem may_nf (hk : 1 ≤ k ∧ k ≤ 5) (hc : 1 ≤ c ∧ c ≤ 3) (hs : 1 ≤ s ∧ s ≤ 64) : (nf k s c).may = true := by
  show (decide (1 ≤ (k : Int) ∧ (k : Int) ≤ 5) && (decide (1 ≤ (c : Int) ∧ (c : Int) ≤ 3) && decide (1 ≤ (s : Int) ∧ (s : Int) ≤ 64))) = true
  rw [decide_eq_true (by omega), decide_eq_true (by omega), decide_eq_true (by omega)]
  rfl
theorem right_ll : (nf 2 s c).right t = (decide (1 ≤ t.length ∧ (t.length : Int) ≤ (s : Int)) && rightAll (ptsOf 2 (c : Int) t.length) t) := rfl
theorem right_nl (hk : k ≠ 2) : (nf k s c).right t = rightAll (ptsOf (k : Int) (c : Int) s) t := by
  unfold Fm.right nf
  rw [if_neg (by simp; omega)]
  rfl
theorem put_ll : (nf 2 s c).put t = encAll (ptsOf 1 (c : Int) 2) (two t.length) ++ encAll (ptsOf 2 (c : Int) t.length) t := rfl
theorem put_nl (hk : k ≠ 2) : (nf k s c).put t = encAll (ptsOf (k : Int) (c : Int) s) t := by
  unfold Fm.put nf
  rw [if_neg (by simp; omega)]
  rfl
theorem take_nl (hk : k ≠ 2) (hm : (nf k s c).may = true) : (nf k s c).take b = takeAll (ptsOf (k : Int) (c : Int) s) b := by
  unfold Fm.take
  rw [if_pos hm]
  unfold nf
  rw [if_neg (by simp; omega)]
  rfl
theorem take_ll (hm : (nf 2 s c).may = true) : (nf 2 s c).take b = match takeAll (ptsOf 1 (c : Int) 2) b with
      | .error e => .error e
      | .ok (t, r) => if 1 ≤ val t ∧ (val t : Int) ≤ (s : Int) then takeAll (ptsOf 2 (c : Int) (val t)) r else .error 42 := by
  unfold Fm.take
  rw [if_pos hm]
  rfl
theorem ll_right (h : (nf 2 s c).right t = true) : (1 ≤ t.length ∧ t.length ≤ s) ∧ rightAll (ptsOf 2 (c : Int) t.length) t = true := by
  rw [right_ll, Bool.and_eq_true, decide_eq_true_eq] at h
  exact ⟨⟨h.1.1, by omega⟩, h.2⟩
theorem fm_back (hk : 1 ≤ k ∧ k ≤ 5) (hc : 1 ≤ c ∧ c ≤ 3) (hs : 1 ≤ s ∧ s ≤ 64) (hr : (nf k s c).right t = true) : (nf k s c).take ((nf k s c).put t ++ rest) = .ok (t, rest) := by
  have hm := may_nf hk hc hs
  by_cases h2 : k = 2
  · subst h2
    obtain ⟨hl, hr2⟩ := ll_right hr
    have h2k := two_ok (n := t.length) (by omega)
    rw [take_ll hm, put_ll, List.append_assoc, take_ok (pts_gm hc) ((num_right _ _).2 ⟨rfl, h2k.2⟩)]
    simp only []
    rw [h2k.1, if_pos ⟨hl.1, by omega⟩]
    exact take_ok (pts_gm hc) hr2
  · rw [right_nl h2] at hr
    rw [take_nl h2 hm, put_nl h2]
    exact take_ok (pts_gm hc) hr
theorem fm_len (hc : 1 ≤ c ∧ c ≤ 3) (hs : 1 ≤ s ∧ s ≤ 64) (hr : (nf k s c).right t = true) : ((nf k s c).put t).length = if k = 2 then sizeAll (ptsOf 1 (c : Int) 2) + sizeAll (ptsOf 2 (c : Int) t.length) else sizeAll (ptsOf (k : Int) (c : Int) s) := by
  by_cases h2 : k = 2
  · subst h2
    obtain ⟨hl, hr2⟩ := ll_right hr
    have h2k := two_ok (n := t.length) (by omega)
    rw [if_pos rfl, put_ll, List.length_append, (enc_all _ _ [] (pts_gm hc) ((num_right _ _).2 ⟨rfl, h2k.2⟩)).1, (enc_all _ _ [] (pts_gm hc) hr2).1]
  · rw [right_nl h2] at hr
    rw [if_neg h2, put_nl h2, (enc_all _ _ [] (pts_gm hc) hr).1]
end
end Go.Proofs.YtfnillibngijaaaGreatDoor.Fdd
namespace Go.Proofs.YtfnillibngijaaaGreatDoor.Fdd
set_option linter.unusedVariables false
/-- a field's number, its kind, its size -/
def mrows : List (Int × Int × Int) := [(2, 2, 19), (3, 1, 6), (4, 1, 12), (7, 1, 10), (11, 1, 6), (32, 2, 11), (38, 3, 6), (39, 3, 2), (49, 1, 3), (64, 4, 8), (70, 1, 3), (74, 1, 10), (76, 1, 10), (86, 1, 16), (88, 1, 16), (90, 1, 20), (97, 5, 16)]
def mfind (no : Int) : List (Int × Int × Int) → Option (Int × Int)
  | [] => none
  | r :: l => if r.1 = no then some r.2 else mfind no l
def unsaid (d : Nat) (no : Int) : List UInt8 := if d = 3 ∧ no = 4 then [48, 48] else []
def mform (d : Nat) (no : Int) : Option Fm := (mfind no mrows).map fun r => ⟨r.1, r.2 - (unsaid d no).length, (d : Int)⟩
def mtypes : List Int := [100, 101, 110, 200, 201, 210, 220, 221, 230, 420, 421, 430, 500, 510, 800, 810]
abbrev Fld := Int × List UInt8
/-- what is wrong with a field's place or text: nothing; 52; 41 -/
def fieldBad (last : Int) (f : Fld) : Int := match mform 1 f.1 with
  | none => 52
  | some m => if f.1 ≤ last then 52 else if m.check f.2 = 0 then 0 else 41
def checkFs : Int → List Fld → Int
  | _, [] => 0
  | last, f :: r => if fieldBad last f = 0 then checkFs f.1 r else fieldBad last f
def mcheck (ty : Int) (fs : List Fld) : Int := if mtypes.contains ty = false then 51 else if 24 < fs.length then 5 else checkFs 0 fs
/-- what a dialect says of a field's text -/
def say (d : Nat) (f : Fld) : List UInt8 := Lib.trimPrefix f.2 (unsaid d f.1)
/-- the fields' bytes behind others; what can't be said -/
def putFs (d : Nat) : List UInt8 → List Fld → Option (List UInt8)
  | b, [] => some b
  | b, f :: r => match mform d f.1 with
    | none => none
    | some m => if m.check (say d f) = 0 then putFs d (b ++ m.put (say d f)) r else none
def half1 (fs : List Fld) : Nat := fs.foldl (fun a f => if f.1 ≤ 64 then a ||| 2 ^ (64 - f.1.toNat) else a) 0
def half2 (fs : List Fld) : Nat := fs.foldl (fun a f => if f.1 ≤ 64 then a else a ||| 2 ^ (128 - f.1.toNat)) 0
/-- the lowest k hexadecimal digits of a number -/
def hexk : Nat → Nat → List UInt8
  | 0, _ => []
  | k + 1, n => hexk k (n / 16) ++ [hexs.getD (n % 16) 0]
def halves (fs : List Fld) : List (List UInt8) := if half2 fs = 0 then [hexk 16 (half1 fs)] else [hexk 16 (half1 fs ||| 2 ^ 63), hexk 16 (half2 fs)]
def ver (d : Nat) : List UInt8 := if d = 1 then [48] else if d = 2 then [49] else [57]
def dig3 (n : Nat) : List UInt8 := [UInt8.ofNat (48 + n / 100), UInt8.ofNat (48 + n / 10 % 10), UInt8.ofNat (48 + n % 10)]
def typeFm (d : Nat) : Fm := nf 1 4 d
def mapFm (d : Nat) : Fm := nf 4 8 d
def mhead (d : Nat) (ty : Int) (fs : List Fld) : List UInt8 := (halves fs).foldl (fun b h => b ++ (mapFm d).put h) ((typeFm d).put (ver d ++ dig3 ty.toNat))
def mencode (d : Int) (ty : Int) (fs : List Fld) : Except Int (List UInt8) :=
  if 1 ≤ d ∧ d ≤ 3 then if mcheck ty fs = 0 then match putFs d.toNat (mhead d.toNat ty fs) fs with
    | none => .error 41
    | some b => .ok b
  else .error (mcheck ty fs) else .error 50
/-- hexadecimal digits as a number -/
def hexVal (t : List UInt8) : Nat := t.foldl (fun a c => a * 16 + hexs.idxOf c) 0
/-- the numbers of a half's fields -/
def nums (h ahead : Nat) : List Int := ((List.range 64).filter fun i => h.testBit (63 - i)).map fun i => ((ahead + i + 1 : Nat) : Int)
def mtype (d : Nat) (t : List UInt8) : Option Int :=
  if (ver d).isPrefixOf t = true then
    if (t.drop 1).length ≤ 18 ∧ onlyOf (t.drop 1) dec = true ∧ t.drop 1 ≠ [] then if mtypes.contains ((val (t.drop 1) : Nat) : Int) = true then some ((val (t.drop 1) : Nat) : Int) else none else none
  else none
def takeType (d : Nat) (b : List UInt8) : Except Int (Int × List UInt8) := match (typeFm d).take b with
  | .error e => .error e
  | .ok (t, r) => match mtype d t with
    | none => .error 51
    | some n => .ok (n, r)
def takeHalf (d : Nat) (b : List UInt8) : Except Int (Nat × List UInt8) := match (mapFm d).take b with
  | .error e => .error e
  | .ok (t, r) => .ok (hexVal t, r)
def takeMap (d : Nat) (b : List UInt8) : Except Int (List Int × List UInt8) := match takeHalf d b with
  | .error e => .error e
  | .ok (h, r) => if h.testBit 63 = false then .ok (nums h 0, r) else match takeHalf d r with
    | .error e => .error e
    | .ok (h2, r2) => if h2 = 0 then .error 53 else .ok (nums (h % 2 ^ 63) 0 ++ nums h2 64, r2)
end Go.Proofs.YtfnillibngijaaaGreatDoor.Fdd
