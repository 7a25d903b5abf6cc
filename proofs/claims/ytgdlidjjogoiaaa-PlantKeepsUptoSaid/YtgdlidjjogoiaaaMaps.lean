/-
  A MAP AS A FUNCTION: a block that is a map whose keys and elements are of known shapes, told by a function from keys to elements; look-up, store, copy, what keeps it. No conditions; it imports nothing of the program.
-/
import Derived.Test.YtgdlidjjogoiaaaMem
import Derived.Maps.Own
import Derived.Maps.OwnSet
import Derived.Maps.Ext
import Derived.Maps.RangeWalk
namespace Go.Proofs.Ytgdlidjjogoiaaa
open Go.RowKit Go.Maps
/-- the elements of a map: what value each is, and how it reads -/
structure Elem (α : Type) where
  val : α → Value
  R : Value → Option (DataW Unit × List MemPlace)
  enc : α → DataW Unit
  made : ∀ x, R (val x) = some (enc x, [])
  inv : ∀ v y, R v = some y → ∃ x, v = val x ∧ y = (enc x, [])
  inj : ∀ x y, enc x = enc y → x = y
/-- the keys of a map -/
structure MKey (P : Program) (k : TypeId) (κ : Type) where
  kv : κ → Value
  kl : κ → Lit
  ok : κ → Prop
  keyed : Keyed P k
  key : ∀ x, ok x → keyOf P k (kv x) = some (kl x)
  inv : ∀ v l, keyOf P k v = some l → ∃ x, ok x ∧ v = kv x ∧ l = kl x
  inj : ∀ x y, kl x = kl y → x = y
/-- D tells f -/
def Tells {P : Program} {k : TypeId} {κ α : Type} (K : MKey P k κ) (E : Elem α) (D : DataW Unit) (f : κ → Option α) : Prop :=
  ∀ x, K.ok x → ∀ z, D.atKey (K.kl x) z = match f x with
    | some a => E.enc a
    | none => z
/-- block b is a map of at most n entries that is f -/
def MapAt {P : Program} {k : TypeId} {κ α : Type} (w : World) (K : MKey P k κ) (E : Elem α) (b n : Nat) (f : κ → Option α) : Prop :=
  ∃ D, w.ownsMap P k E.R b n D ∧ Tells K E D f
def upd {κ α : Type} [DecidableEq κ] (f : κ → Option α) (x : κ) (a : α) : κ → Option α := fun y => if y = x then some a else f y
/-- f, but what g has stands in front -/
def over {κ α : Type} (g f : κ → Option α) : κ → Option α := fun y => match g y with
  | some a => some a
  | none => f y
section
variable {P : Program} {k : TypeId} {κ α : Type} {K : MKey P k κ} {E : Elem α} {w w' : World} {b n m : Nat} {f : κ → Option α} {F : Nat → Prop}
theorem MapAt.lt (h : MapAt w K E b n f) : b < w.heap.size := by
  obtain ⟨D, h, _⟩ := h
  exact h.lt
theorem MapAt.ne {g : Nat} {t : TypeId} {cs : Array Value} (h : MapAt w K E b n f) (h' : Blk w g t cs) : g ≠ b := by
  obtain ⟨D, ⟨es, clock, hb, _⟩, _⟩ := h
  exact cells_ne_map h' hb
theorem MapAt.mono (h : MapAt w K E b n f) (hn : n ≤ m) : MapAt w K E b m f := by
  obtain ⟨D, h, t⟩ := h
  exact ⟨D, h.mono hn, t⟩
theorem MapAt.block (h : MapAt w K E b n f) (hb : w'.heap[b]? = w.heap[b]?) : MapAt w' K E b n f := by
  obtain ⟨D, ⟨es, clock, h1, h2⟩, t⟩ := h
  exact ⟨D, ⟨es, clock, hb.trans h1, h2⟩, t⟩
theorem MapAt.turn (h : MapAt w K E b n f) (ht : Turn F w w') (hn : ¬ F b) : MapAt w' K E b n f := h.block (ht.block b h.lt hn)
theorem MapAt.grown {row : Option Nat} (h : MapAt w K E b n f) (hg : w.grownBy w' row) (hn : some b ≠ row) : MapAt w' K E b n f := h.block (hg.block b h.lt hn)
theorem MapAt.drew (h : MapAt w K E b n f) : MapAt w.drew K E b n f := h
theorem MapAt.drewN (h : MapAt w K E b n f) (m : Nat) : MapAt (w.drewN m) K E b n f := h
theorem MapAt.alloc (h : MapAt w K E b n f) (o : Obj) : MapAt (w.alloc o) K E b n f := h.block (Below.heap_alloc w o b h.lt)
theorem MapAt.setCell (h : MapAt w K E b n f) {p : Addr} (hp : b ≠ p.block) (u : Value) : MapAt (w.setCell p u) K E b n f := h.block (heap_setCell_other w p b u hp)
theorem MapAt.made (K : MKey P k κ) (E : Elem α) (w : World) : MapAt (w.alloc (.map #[] 0)) K E w.heap.size 0 (fun _ => none) :=
  ⟨_, World.ownsMap_made w P k E.R, fun _ _ _ => rfl⟩
theorem Tells.has {D : DataW Unit} (h : Tells K E D f) {x : κ} (hx : K.ok x) : Maps.has D (K.kl x) = (f x).isSome := by
  have h1 := h x hx
  cases hf : f x with
  | none => rw [hf] at h1; exact has_false_of_atKey h1
  | some a => rw [hf] at h1; exact has_true_of_atKey h1
theorem MapAt.lookup (h : MapAt w K E b n f) {t e : TypeId} (ht : P.underlying t = some (.map k e)) {z0 : α} (hz : (zeroValue e).run P w = .ok (E.val z0) w) {x : κ} (hx : K.ok x) :
    (Instr.lookup t (.map (some b)) (K.kv x) false).run P w = .ok (E.val ((f x).getD z0)) w := by
  obtain ⟨D, h, t⟩ := h
  obtain ⟨v, ps, hrun, hv⟩ := h.lookup K.keyed ht hz (E.made z0) (K.key x hx)
  obtain ⟨y, rfl, hy⟩ := E.inv _ _ hv
  rw [hrun]
  have e1 : D.atKey (K.kl x) (E.enc z0) = E.enc y := congrArg Prod.fst hy
  rw [t x hx] at e1
  cases hf : f x with
  | none => rw [hf] at e1; rw [Option.getD_none, E.inj _ _ e1]
  | some a => rw [hf] at e1; rw [Option.getD_some, E.inj _ _ e1]
theorem MapAt.look_ok (h : MapAt w K E b n f) {t e : TypeId} (ht : P.underlying t = some (.map k e)) {z0 : α} (hz : (zeroValue e).run P w = .ok (E.val z0) w) {x : κ} (hx : K.ok x) :
    (Instr.lookup t (.map (some b)) (K.kv x) true).run P w = .ok (.tuple #[E.val ((f x).getD z0), .bool (f x).isSome]) w := by
  obtain ⟨D, h, t⟩ := h
  obtain ⟨v, ps, hrun, hv⟩ := h.look_ok K.keyed ht hz (E.made z0) (K.key x hx)
  obtain ⟨y, rfl, hy⟩ := E.inv _ _ hv
  rw [hrun, t.has hx]
  have e1 : D.atKey (K.kl x) (E.enc z0) = E.enc y := congrArg Prod.fst hy
  rw [t x hx] at e1
  cases hf : f x with
  | none => rw [hf] at e1; rw [Option.getD_none, E.inj _ _ e1]
  | some a => rw [hf] at e1; rw [Option.getD_some, E.inj _ _ e1]
theorem Tells.put [DecidableEq κ] {D : DataW Unit} (hm : IsMap D) (h : Tells K E D f) {x : κ} (hx : K.ok x) (a : α) : Tells K E (D.put (K.kl x) (E.enc a)) (upd f x a) := by
  intro y hy z
  unfold upd
  by_cases e : y = x
  · subst e
    rw [if_pos rfl, atKey_put_same hm (K.keyed.key (K.key y hx))]
  · rw [if_neg e, atKey_put_other (fun e' => e (K.inj _ _ e'))]
    exact h y hy z
theorem MapAt.update [DecidableEq κ] (h : MapAt w K E b n f) {t e : TypeId} (ht : P.underlying t = some (.map k e)) (hn : n < maxLen) {x : κ} (hx : K.ok x) (a : α) :
    ∃ w', (Instr.mapUpdate t (.map (some b)) (K.kv x) (E.val a)).run P w = .ok () w' ∧ MapAt w' K E b (n + 1) (upd f x a) ∧ w.grownBy w' (some b) := by
  obtain ⟨D, h, t⟩ := h
  have hm := h.isMap
  obtain ⟨w', h1, h2, h3⟩ := h.update K.keyed ht hn (K.key x hx) (E.made a)
  exact ⟨w', h1, ⟨_, h2, t.put hm hx a⟩, h3⟩
theorem wpList_mapUpdate_at [DecidableEq κ] {ops : Array Oper} {rest : List Oper} {o : Oper} {a : Act} {Q : Exit → Act → World → Prop} (hgd : Region.wanted o (yielded ops a.tmps) = true)
    (mm x v : Operand) (t : TypeId) (hop : o.op = Op.mapUpdate t mm x v) (h : MapAt w K E b n f) {e : TypeId} (ht : P.underlying t = some (.map k e)) (hn : n < maxLen) {y : κ} (hy : K.ok y) (u : α)
    (hm : a.eval mm = .map (some b)) (hx : a.eval x = K.kv y) (hv : a.eval v = E.val u)
    (hK : ∀ w', MapAt w' K E b (n + 1) (upd f y u) → w.grownBy w' (some b) → wpList P ops Q rest (a.put o.dst undef) w') :
    wpList P ops Q (o :: rest) a w :=
  wpList_step fun K' hK' => by
    rw [if_pos hgd]
    obtain ⟨w', hrun, r1, r2⟩ := h.update ht hn hy u
    unfold Oper.wp
    simp [execOp, hop, hm, hx, hv, hrun, Result.andThen]
    exact hK' _ _ (hK w' r1 r2)
end
section
variable {P : Program} {k : TypeId} {κ α : Type} {K : MKey P k κ} {E : Elem α} {w w' : World} {b n m : Nat} {f g : κ → Option α}
theorem MapAt.congr (h : MapAt w K E b n f) (hg : ∀ x, K.ok x → g x = f x) : MapAt w K E b n g := by
  obtain ⟨D, h, t⟩ := h
  exact ⟨D, h, fun x hx z => by rw [hg x hx]; exact t x hx z⟩
/-- of the map fs (read as Ds) all that is not left has been laid over f -/
def Laid (K : MKey P k κ) (Ds : DataW Unit) (fs f : κ → Option α) (left : Lit → Bool) (fd : κ → Option α) : Prop :=
  ∀ x, K.ok x → fd x = if Maps.has Ds (K.kl x) && !left (K.kl x) then fs x else f x
theorem laid_start (Ds : DataW Unit) (fs f : κ → Option α) : Laid K Ds fs f (Maps.has Ds) f := fun x _ => by
  cases Maps.has Ds (K.kl x) <;> rfl
theorem laid_step [DecidableEq κ] {Ds : DataW Unit} {fs f fd : κ → Option α} {left : Lit → Bool} {x : κ} {a : α} (hx : K.ok x) (hs : Tells K E Ds fs) (hat : ∀ zd, Ds.atKey (K.kl x) zd = E.enc a) (h : Laid K Ds fs f left fd) :
    Laid K Ds fs f (fun z => left z && !z.sameKey (K.kl x)) (upd fd x a) := by
  have hfx : fs x = some a := by
    have h1 := hs x hx
    cases hf : fs x with
    | none =>
      rw [hf] at h1
      have h2 := (h1 .nil).symm.trans (hat .nil)
      have h3 := (h1 (.lit (.bool true))).symm.trans (hat _)
      rw [← h3] at h2
      cases h2
    | some a' =>
      rw [hf] at h1
      rw [E.inj a' a ((h1 .nil).symm.trans (hat _))]
  have hhas : Maps.has Ds (K.kl x) = true := by rw [hs.has hx, hfx]; rfl
  intro y hy
  unfold upd
  by_cases e : y = x
  · subst e
    have h1 := WideAt.sameKey_self (K.keyed.key (K.key y hy))
    rw [if_pos rfl, hhas, hfx]
    simp [h1]
  · have h1 : (K.kl y).sameKey (K.kl x) = false := sameKey_ne (fun e' => e (K.inj _ _ e'))
    rw [if_neg e, h y hy]
    simp [h1]
theorem laid_end {Ds : DataW Unit} {fs f fd : κ → Option α} {left : Lit → Bool} (hs : Tells K E Ds fs) (hl : ∀ z, left z = false) (h : Laid K Ds fs f left fd) : ∀ x, K.ok x → over fs f x = fd x := by
  intro x hx
  rw [h x hx, hl, hs.has hx]
  unfold over
  cases fs x <;> rfl
end
/-- keys that are ints -/
noncomputable def intKey {P : Program} {k : TypeId} (hk : P.underlying k = some (.int .i64)) : MKey P k Int where
  kv x := .int .i64 x
  kl x := .int .i64 x
  ok x := (Lit.int .i64 x).wf = true
  keyed := int_keyed hk
  key _ hx := keyOf_int_mk hk hx
  inv v l h := by
    obtain ⟨x, h1, h2, h3⟩ := keyOf_int_inv hk h
    exact ⟨x, h3, h1, h2⟩
  inj x y h := by injection h
/-- the cells' bytes, if they are bytes -/
def cellsBytes : List Value → Option (List UInt8)
  | [] => some []
  | .int .u8 n :: r => if 0 ≤ n ∧ n < 256 then (cellsBytes r).map (UInt8.ofNat n.toNat :: ·) else none
  | _ :: _ => none
theorem cellsBytes_bcs : ∀ bs : List UInt8, cellsBytes (bcs bs) = some bs
  | [] => rfl
  | x :: r => by
    have h1 : x.toNat < 256 := x.toNat_lt
    have h : 0 ≤ (x.toNat : Int) ∧ (x.toNat : Int) < 256 := by omega
    simp only [bcs, List.map_cons, cellsBytes]
    have hr := cellsBytes_bcs r
    unfold bcs at hr
    rw [if_pos h, hr]
    simp
theorem bcs_of_cellsBytes : ∀ (l : List Value) (bs : List UInt8), cellsBytes l = some bs → l = bcs bs
  | [], bs, h => by
    simp only [cellsBytes, Option.some.injEq] at h
    subst h
    rfl
  | v :: r, bs, h => by
    unfold cellsBytes at h
    split at h
    · cases ‹_ :: _ = []›
    · rename_i n r' e
      injection e with e1 e2
      subst e1 e2
      split at h
      · rename_i hn
        cases hq : cellsBytes r with
        | none => rw [hq] at h; cases h
        | some q =>
          rw [hq] at h
          simp only [Option.map_some, Option.some.injEq] at h
          subst h
          rw [bcs_of_cellsBytes r q hq]
          have : ((UInt8.ofNat n.toNat).toNat : Int) = n := by
            rw [UInt8.toNat_ofNat']
            omega
          simp only [bcs, List.map_cons, this]
      · cases h
    · cases h
/-- a row of bytes as one value -/
def rowV (bs : List UInt8) : Value := .agg (bcs bs).toArray
/-- elements that are rows of s bytes -/
def rowElem (s : Nat) : Elem { l : List UInt8 // l.length = s } where
  val x := rowV x.1
  R v := match v with
    | .agg cs => match cellsBytes cs.toList with
      | some bs => if bs.length = s then some (.lit (.string bs), []) else none
      | none => none
    | _ => none
  enc x := .lit (.string x.1)
  made x := by
    simp only [rowV, cellsBytes_bcs, x.2, if_true]
  inv v y h := by
    split at h
    · rename_i cs
      split at h
      · rename_i bs hb
        split at h
        · rename_i hs
          cases h
          refine ⟨⟨bs, hs⟩, ?_, rfl⟩
          show _ = rowV bs
          unfold rowV
          rw [← bcs_of_cellsBytes _ _ hb]
        · cases h
      · cases h
    · cases h
  inj x y h := by
    injection h with h
    injection h with h
    exact Subtype.ext h
end Go.Proofs.Ytgdlidjjogoiaaa
