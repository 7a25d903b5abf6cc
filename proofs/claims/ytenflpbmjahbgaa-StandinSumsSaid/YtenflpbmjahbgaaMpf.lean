/-
  A MAP AS A FUNCTION, its keys of any type that has a law: a block that is a map whose keys and elements are of known shapes, told by a function from keys to elements; look-up, store, clear, clone, what keeps it. No conditions; it imports nothing of the program.
-/
import Derived.Test.YtenflpbmjahbgaaMem
import Derived.Maps.Own
import Derived.Maps.OwnSet
import Derived.Maps.Ext
import Derived.Maps.RangeWalk
namespace Go.Proofs.Ytenflpbmjahbgaa
open Go.RowKit Go.Maps
/-- the elements of a map: what value each is, and how it reads -/
structure Elem (α : Type) where
  val : α → Value
  R : Value → Option (DataW Unit × List MemPlace)
  enc : α → DataW Unit
  made : ∀ x, R (val x) = some (enc x, [])
  inv : ∀ v y, R v = some y → ∃ x, v = val x ∧ y = (enc x, [])
  inj : ∀ x y, enc x = enc y → x = y
/-- the keys of a map -/
structure MKey (P : Program) (k : TypeId) (κ : Type) where
  kv : κ → Value
  kl : κ → Lit
  ok : κ → Prop
  keyed : Keyed P k
  key : ∀ x, ok x → keyOf P k (kv x) = some (kl x)
  inj : ∀ x y, kl x = kl y → x = y
/-- D tells f -/
def Tells {P : Program} {k : TypeId} {κ α : Type} (K : MKey P k κ) (E : Elem α) (D : DataW Unit) (f : κ → Option α) : Prop :=
  ∀ x, K.ok x → ∀ z, D.atKey (K.kl x) z = match f x with
    | some a => E.enc a
    | none => z
/-- block b is a map of at most n entries that is f -/
def MapAt {P : Program} {k : TypeId} {κ α : Type} (w : World) (K : MKey P k κ) (E : Elem α) (b n : Nat) (f : κ → Option α) : Prop :=
  ∃ D, w.ownsMap P k E.R b n D ∧ Tells K E D f
def upd {κ α : Type} [DecidableEq κ] (f : κ → Option α) (x : κ) (a : α) : κ → Option α := fun y => if y = x then some a else f y
/-- f, but what g has stands in front -/
def over {κ α : Type} (g f : κ → Option α) : κ → Option α := fun y => match g y with
  | some a => some a
  | none => f y
section
variable {P : Program} {k : TypeId} {κ α : Type} {K : MKey P k κ} {E : Elem α} {w w' : World} {b n m : Nat} {f : κ → Option α} {F : Nat → Prop}
theorem MapAt.lt (h : MapAt w K E b n f) : b < w.heap.size := by
  obtain ⟨D, h, _⟩ := h
  exact h.lt
theorem MapAt.ne {g : Nat} {t : TypeId} {cs : Array Value} (h : MapAt w K E b n f) (h' : Blk w g t cs) : g ≠ b := by
  obtain ⟨D, ⟨es, clock, hb, _⟩, _⟩ := h
  exact cells_ne_map h' hb
theorem MapAt.mono (h : MapAt w K E b n f) (hn : n ≤ m) : MapAt w K E b m f := by
  obtain ⟨D, h, t⟩ := h
  exact ⟨D, h.mono hn, t⟩
theorem MapAt.block (h : MapAt w K E b n f) (hb : w'.heap[b]? = w.heap[b]?) : MapAt w' K E b n f := by
  obtain ⟨D, ⟨es, clock, h1, h2⟩, t⟩ := h
  exact ⟨D, ⟨es, clock, hb.trans h1, h2⟩, t⟩
theorem MapAt.turn (h : MapAt w K E b n f) (ht : Turn F w w') (hn : ¬ F b) : MapAt w' K E b n f := h.block (ht.block b h.lt hn)
theorem MapAt.grown {row : Option Nat} (h : MapAt w K E b n f) (hg : w.grownBy w' row) (hn : some b ≠ row) : MapAt w' K E b n f := h.block (hg.block b h.lt hn)
theorem MapAt.drew (h : MapAt w K E b n f) : MapAt w.drew K E b n f := h
theorem MapAt.drewN (h : MapAt w K E b n f) (m : Nat) : MapAt (w.drewN m) K E b n f := h
theorem MapAt.alloc (h : MapAt w K E b n f) (o : Obj) : MapAt (w.alloc o) K E b n f := h.block (Below.heap_alloc w o b h.lt)
theorem MapAt.setCell (h : MapAt w K E b n f) {p : Addr} (hp : b ≠ p.block) (u : Value) : MapAt (w.setCell p u) K E b n f := h.block (heap_setCell_other w p b u hp)
theorem MapAt.made (K : MKey P k κ) (E : Elem α) (w : World) : MapAt (w.alloc (.map #[] 0)) K E w.heap.size 0 (fun _ => none) :=
  ⟨_, World.ownsMap_made w P k E.R, fun _ _ _ => rfl⟩
theorem Tells.has {D : DataW Unit} (h : Tells K E D f) {x : κ} (hx : K.ok x) : Maps.has D (K.kl x) = (f x).isSome := by
  have h1 := h x hx
  cases hf : f x with
  | none => rw [hf] at h1; exact has_false_of_atKey h1
  | some a => rw [hf] at h1; exact has_true_of_atKey h1
theorem MapAt.lookup (h : MapAt w K E b n f) {t e : TypeId} (ht : P.underlying t = some (.map k e)) {z0 : α} (hz : (zeroValue e).run P w = .ok (E.val z0) w) {x : κ} (hx : K.ok x) :
    (Instr.lookup t (.map (some b)) (K.kv x) false).run P w = .ok (E.val ((f x).getD z0)) w := by
  obtain ⟨D, h, t⟩ := h
  obtain ⟨v, ps, hrun, hv⟩ := h.lookup K.keyed ht hz (E.made z0) (K.key x hx)
  obtain ⟨y, rfl, hy⟩ := E.inv _ _ hv
  rw [hrun]
  have e1 : D.atKey (K.kl x) (E.enc z0) = E.enc y := congrArg Prod.fst hy
  rw [t x hx] at e1
  cases hf : f x with
  | none => rw [hf] at e1; rw [Option.getD_none, E.inj _ _ e1]
  | some a => rw [hf] at e1; rw [Option.getD_some, E.inj _ _ e1]
theorem MapAt.look_ok (h : MapAt w K E b n f) {t e : TypeId} (ht : P.underlying t = some (.map k e)) {z0 : α} (hz : (zeroValue e).run P w = .ok (E.val z0) w) {x : κ} (hx : K.ok x) :
    (Instr.lookup t (.map (some b)) (K.kv x) true).run P w = .ok (.tuple #[E.val ((f x).getD z0), .bool (f x).isSome]) w := by
  obtain ⟨D, h, t⟩ := h
  obtain ⟨v, ps, hrun, hv⟩ := h.look_ok K.keyed ht hz (E.made z0) (K.key x hx)
  obtain ⟨y, rfl, hy⟩ := E.inv _ _ hv
  rw [hrun, t.has hx]
  have e1 : D.atKey (K.kl x) (E.enc z0) = E.enc y := congrArg Prod.fst hy
  rw [t x hx] at e1
  cases hf : f x with
  | none => rw [hf] at e1; rw [Option.getD_none, E.inj _ _ e1]
  | some a => rw [hf] at e1; rw [Option.getD_some, E.inj _ _ e1]
theorem Tells.put [DecidableEq κ] {D : DataW Unit} (hm : IsMap D) (h : Tells K E D f) {x : κ} (hx : K.ok x) (a : α) : Tells K E (D.put (K.kl x) (E.enc a)) (upd f x a) := by
  intro y hy z
  unfold upd
  by_cases e : y = x
  · subst e
    rw [if_pos rfl, atKey_put_same hm (K.keyed.key (K.key y hx))]
  · rw [if_neg e, atKey_put_other (fun e' => e (K.inj _ _ e'))]
    exact h y hy z
theorem MapAt.update [DecidableEq κ] (h : MapAt w K E b n f) {t e : TypeId} (ht : P.underlying t = some (.map k e)) (hn : n < maxLen) {x : κ} (hx : K.ok x) (a : α) :
    ∃ w', (Instr.mapUpdate t (.map (some b)) (K.kv x) (E.val a)).run P w = .ok () w' ∧ MapAt w' K E b (n + 1) (upd f x a) ∧ w.grownBy w' (some b) := by
  obtain ⟨D, h, t⟩ := h
  have hm := h.isMap
  obtain ⟨w', h1, h2, h3⟩ := h.update K.keyed ht hn (K.key x hx) (E.made a)
  exact ⟨w', h1, ⟨_, h2, t.put hm hx a⟩, h3⟩
theorem wpList_mapUpdate_at [DecidableEq κ] {ops : Array Oper} {rest : List Oper} {o : Oper} {a : Act} {Q : Exit → Act → World → Prop} (hgd : Region.wanted o (yielded ops a.tmps) = true)
    (mm x v : Operand) (t : TypeId) (hop : o.op = Op.mapUpdate t mm x v) (h : MapAt w K E b n f) {e : TypeId} (ht : P.underlying t = some (.map k e)) (hn : n < maxLen) {y : κ} (hy : K.ok y) (u : α)
    (hm : a.eval mm = .map (some b)) (hx : a.eval x = K.kv y) (hv : a.eval v = E.val u)
    (hK : ∀ w', MapAt w' K E b (n + 1) (upd f y u) → w.grownBy w' (some b) → wpList P ops Q rest (a.put o.dst undef) w') :
    wpList P ops Q (o :: rest) a w :=
  wpList_step fun K' hK' => by
    rw [if_pos hgd]
    obtain ⟨w', hrun, r1, r2⟩ := h.update ht hn hy u
    unfold Oper.wp
    simp [execOp, hop, hm, hx, hv, hrun, Result.andThen]
    exact hK' _ _ (hK w' r1 r2)
end
section
variable {P : Program} {k : TypeId} {κ α : Type} {K : MKey P k κ} {E : Elem α} {w w' : World} {b n m : Nat} {f g : κ → Option α}
theorem MapAt.congr (h : MapAt w K E b n f) (hg : ∀ x, K.ok x → g x = f x) : MapAt w K E b n g := by
  obtain ⟨D, h, t⟩ := h
  exact ⟨D, h, fun x hx z => by rw [hg x hx]; exact t x hx z⟩
end
section
variable {P : Program} {k : TypeId} {κ α : Type} {K : MKey P k κ} {E : Elem α} {w w' : World} {b n m : Nat} {f g : κ → Option α}
theorem MapAt.map_ (h : MapAt w K E b n f) : ∃ es clock, w.heap[b]? = some (.map es clock) := by
  obtain ⟨D, ⟨es, clock, hb, _⟩, _⟩ := h
  exact ⟨es, clock, hb⟩
theorem MapAt.entries (h : MapAt w K E b n f) : ∃ es clock, w.heap[b]? = some (.map es clock) ∧ ∀ w' b', w'.heap[b']? = some (.map es clock) → MapAt w' K E b' n f := by
  obtain ⟨D, ⟨es, clock, hb, F, hs, hD⟩, ht⟩ := h
  exact ⟨es, clock, hb, fun w' b' hw => ⟨D, ⟨es, clock, hw, F, hs, hD⟩, ht⟩⟩
/-- clear: nothing is there -/
theorem MapAt.clear (h : MapAt w K E b n f) {t e ty : TypeId} (ht : P.underlying t = some (.map k e)) :
    ∃ w', (Builtin.clear_ #[t] ty #[.map (some b)]).run P w = .ok (.tuple #[]) w' ∧ MapAt w' K E b 0 (fun _ => none) ∧ Turn (only b) w w' := by
  obtain ⟨D, ⟨es, clock, hb, F, _, _⟩, _⟩ := h
  refine ⟨Go.ChangeMaps.setBlock w b (.map #[] clock), ?_, ?_, ?_⟩
  · simp [Builtin.clear_, run_underlying ht, MapKept.run_getObj_map hb, MapKept.run_setObj_map _ hb, Result.andThen, Go.ChangeMaps.setBlock]
  · refine ⟨.map [], ⟨#[], clock, Go.ChangeMaps.heap_setBlock_same hb _, ⟨by simp, MapKept.stamped_empty _, by simp⟩, Nat.le_refl _, rfl⟩, fun x _ z => rfl⟩
  · exact ⟨rfl, rfl, rfl, by simp [Go.ChangeMaps.setBlock], fun k hk hn => Go.ChangeMaps.heap_setBlock_other hb _ (fun e => hn e)⟩
/-- elements that are ints -/
def intE : Elem Int where
  val x := .int .i64 x
  R v := match v with
    | .int .i64 x => some (.lit (.int .i64 x), [])
    | _ => none
  enc x := .lit (.int .i64 x)
  made x := rfl
  inv v y h := by
    split at h
    · cases h
      exact ⟨_, rfl, rfl⟩
    · cases h
  inj x y h := by
    injection h with h
    injection h with h
end
end Go.Proofs.Ytenflpbmjahbgaa
