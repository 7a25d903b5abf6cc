/-
  A MAP IN MEMORY AS A SORTED ROW of keys with values, whatever the values are: look-up, store, delete, len, clone, and what keeps it. No conditions; it imports nothing of the program.
-/
import Derived.Test.YtihmpbilbnajpaaMem
import Derived.Test.YtihmpbilbnajpaaIxJ
import Derived.Maps.Own
import Derived.Maps.OwnSet
import Derived.Maps.Ext
import Derived.Sort.KeysCollected
namespace Go.Proofs.Ytihmpbilbnajpaa
open Go.RowKit Go.Maps
set_option linter.unusedVariables false
/-- the keys of a map: their values, how they read, their order -/
structure KK (P : Program) (k : TypeId) (κ : Type) where
  kv : κ → Value
  kl : κ → Lit
  ok : κ → Prop
  lt : κ → κ → Bool
  keyed : Keyed P k
  key : ∀ x, ok x → keyOf P k (kv x) = some (kl x)
  inj : ∀ x y, kl x = kl y → x = y
  before : ∀ x y, (kl x).before (kl y) = lt x y
  irr : ∀ x, lt x x = false
def hv : Value → Option (DataW Value × List MemPlace) := fun v => some (.held v, [])
section
variable {P : Program} {k : TypeId} {κ : Type}
def dat (K : KK P k κ) (l : List (κ × Value)) : DataW Value := .map (l.map fun x => (K.kl x.1, .held x.2))
/-- block b is a map that has just what l has -/
structure Mp (w : World) (K : KK P k κ) (b : Nat) (l : List (κ × Value)) : Prop where
  own : w.ownsMap P k hv b l.length (dat K l)
  srt : l.Pairwise fun x y => K.lt x.1 y.1 = true
  ok : ∀ x ∈ l, K.ok x.1
variable {K : KK P k κ} {w w' : World} {b : Nat} {l : List (κ × Value)} {F : Nat → Prop}
theorem KK.lit (K : KK P k κ) {x : κ} (h : K.ok x) : WideAt.IsKeyLit (K.kl x) := K.keyed.key (K.key x h)
theorem Mp.lt (h : Mp w K b l) : b < w.heap.size := h.own.lt
theorem Mp.block (h : Mp w K b l) (hb : w'.heap[b]? = w.heap[b]?) : Mp w' K b l := by
  obtain ⟨⟨es, clock, h1, h2⟩, h3, h4⟩ := h
  exact ⟨⟨es, clock, hb.trans h1, h2⟩, h3, h4⟩
theorem Mp.turn (h : Mp w K b l) (ht : Turn F w w') (hn : ¬ F b) : Mp w' K b l := h.block (ht.block b h.lt hn)
theorem Mp.still (h : Mp w K b l) (ht : Turn nowhere w w') : Mp w' K b l := h.turn ht fun e => e
theorem Mp.alloc (h : Mp w K b l) (o : Obj) : Mp (w.alloc o) K b l := h.block (Below.heap_alloc w o b h.lt)
theorem Mp.ne {g : Nat} {t : TypeId} {cs : Array Value} (h : Mp w K b l) (h' : Blk w g t cs) : g ≠ b := by
  obtain ⟨es, clock, hb, _⟩ := h.own
  exact cells_ne_map h' hb
theorem Mp.made (K : KK P k κ) (w : World) : Mp (w.alloc (.map #[] 0)) K w.heap.size [] := ⟨World.ownsMap_made w P k hv, List.Pairwise.nil, fun x h => (by cases h)⟩
theorem owns_tight {R : Value → Option (DataW Value × List MemPlace)} {n : Nat} {D : DataW Value} (h : w.ownsMap P k R b n D) : w.ownsMap P k R b (Maps.size D) D := by
  obtain ⟨es, clock, hb, F, _, rfl⟩ := h
  exact ⟨es, clock, hb, F, by simp [Maps.size, length_sorted], rfl⟩
theorem dat_size (K : KK P k κ) (l : List (κ × Value)) : Maps.size (dat K l) = l.length := by simp [dat, Maps.size]
theorem dat_canon (hs : l.Pairwise fun x y => K.lt x.1 y.1 = true) (ho : ∀ x ∈ l, K.ok x.1) : Canon (dat K l) := ⟨_, rfl, by
  rw [List.pairwise_map]
  exact hs.imp fun {a c} h => (K.before a.1 c.1).trans h, fun p hp => by
  obtain ⟨x, hx, rfl⟩ := List.mem_map.1 hp
  exact K.lit (ho x hx)⟩
theorem dat_has (ho : ∀ x ∈ l, K.ok x.1) {q : Lit} : Maps.has (dat K l) q = true ↔ ∃ x ∈ l, K.kl x.1 = q := by
  unfold dat
  rw [Maps.has_eq, List.any_eq_true]
  constructor
  · rintro ⟨p, hp, hs⟩
    obtain ⟨x, hx, rfl⟩ := List.mem_map.1 hp
    exact ⟨x, hx, WideAt.sameKey_eq hs |>.symm |>.symm⟩
  · rintro ⟨x, hx, rfl⟩
    exact ⟨_, List.mem_map_of_mem hx, WideAt.sameKey_self (K.lit (ho x hx))⟩
theorem dat_at (hs : l.Pairwise fun x y => K.lt x.1 y.1 = true) (ho : ∀ x ∈ l, K.ok x.1) {x : κ × Value} (hx : x ∈ l) (z : DataW Value) : (dat K l).atKey (K.kl x.1) z = .held x.2 := by
  obtain ⟨es, he, h1, h2⟩ := dat_canon hs ho
  unfold dat at he ⊢
  injection he with he
  rw [he]
  refine WideAt.atKey_mem z (K.lit (ho x hx)) (apart_of_rising h1) ?_
  rw [← he]
  exact List.mem_map.2 ⟨x, hx, rfl⟩
theorem bool_ext {a c : Bool} (h : a = true ↔ c = true) : a = c := by cases a <;> cases c <;> simp_all
theorem Mp.look (h : Mp w K b l) {t e : TypeId} (ht : P.underlying t = some (.map k e)) {z : Value} (hz : (zeroValue e).run P w = .ok z w) {x : κ × Value} (hx : x ∈ l) :
    (Instr.lookup t (.map (some b)) (K.kv x.1) true).run P w = .ok (.tuple #[x.2, .bool true]) w := by
  obtain ⟨v, ps, hrun, hV⟩ := h.own.look_ok K.keyed ht hz (zd := .held z) (zp := []) rfl (K.key _ (h.ok x hx))
  rw [hrun, (dat_has h.ok).2 ⟨x, hx, rfl⟩]
  rw [dat_at h.srt h.ok hx] at hV
  unfold hv at hV
  injection hV with hV
  injection hV with hV
  injection hV with hV
  rw [hV]
theorem Mp.lookNo (h : Mp w K b l) {t e : TypeId} (ht : P.underlying t = some (.map k e)) {z : Value} (hz : (zeroValue e).run P w = .ok z w) {x : κ} (hk : K.ok x) (hx : ∀ y ∈ l, y.1 ≠ x) :
    (Instr.lookup t (.map (some b)) (K.kv x) true).run P w = .ok (.tuple #[z, .bool false]) w := by
  obtain ⟨v, ps, hrun, hV⟩ := h.own.look_ok K.keyed ht hz (zd := .held z) (zp := []) rfl (K.key _ hk)
  have h1 : Maps.has (dat K l) (K.kl x) = false := by
    cases e : Maps.has (dat K l) (K.kl x) with
    | false => rfl
    | true =>
      obtain ⟨y, hy, he⟩ := (dat_has h.ok).1 e
      exact absurd (K.inj _ _ he) (hx y hy)
  rw [hrun, h1]
  rw [atKey_of_not_has h1] at hV
  unfold hv at hV
  injection hV with hV
  injection hV with hV
  injection hV with hV
  rw [hV]
theorem Mp.get (h : Mp w K b l) {t e : TypeId} (ht : P.underlying t = some (.map k e)) {z : Value} (hz : (zeroValue e).run P w = .ok z w) {x : κ × Value} (hx : x ∈ l) :
    (Instr.lookup t (.map (some b)) (K.kv x.1) false).run P w = .ok x.2 w := by
  obtain ⟨v, ps, hrun, hV⟩ := h.own.lookup K.keyed ht hz (zd := .held z) (zp := []) rfl (K.key _ (h.ok x hx))
  rw [hrun]
  rw [dat_at h.srt h.ok hx] at hV
  unfold hv at hV
  injection hV with hV
  injection hV with hV
  injection hV with hV
  rw [hV]
theorem Mp.getNo (h : Mp w K b l) {t e : TypeId} (ht : P.underlying t = some (.map k e)) {z : Value} (hz : (zeroValue e).run P w = .ok z w) {x : κ} (hk : K.ok x) (hx : ∀ y ∈ l, y.1 ≠ x) :
    (Instr.lookup t (.map (some b)) (K.kv x) false).run P w = .ok z w := by
  obtain ⟨v, ps, hrun, hV⟩ := h.own.lookup K.keyed ht hz (zd := .held z) (zp := []) rfl (K.key _ hk)
  have h1 : Maps.has (dat K l) (K.kl x) = false := by
    cases e : Maps.has (dat K l) (K.kl x) with
    | false => rfl
    | true =>
      obtain ⟨y, hy, he⟩ := (dat_has h.ok).1 e
      exact absurd (K.inj _ _ he) (hx y hy)
  rw [hrun]
  rw [atKey_of_not_has h1] at hV
  unfold hv at hV
  injection hV with hV
  injection hV with hV
  injection hV with hV
  rw [hV]
theorem Mp.len (h : Mp w K b l) {t e : TypeId} (ht : P.underlying t = some (.map k e)) (ty : TypeId) : (Builtin.len_ #[t] ty #[.map (some b)]).run P w = .ok (.int .i64 (l.length : Int)) w := by
  have := h.own.len ht ty
  rwa [dat_size] at this
theorem turned_turn {w w' : World} {b : Nat} (h : w.mapTurned w' b) : Turn (only b) w w' := by
  have := h.grown
  exact (Turn.refl _ w).grown this fun g e _ => by injection e with e; exact e.symm
theorem Mp.put (h : Mp w K b l) {t e : TypeId} (ht : P.underlying t = some (.map k e)) (hn : l.length < maxLen) {x : κ} (hx : K.ok x) (u : Value) {l' : List (κ × Value)} (hs : l'.Pairwise fun x y => K.lt x.1 y.1 = true) (hm : ∀ p, p ∈ l' ↔ p = (x, u) ∨ (p.1 ≠ x ∧ p ∈ l)) :
    ∃ w', (Instr.mapUpdate t (.map (some b)) (K.kv x) u).run P w = .ok () w' ∧ Mp w' K b l' ∧ Turn (only b) w w' := by
  obtain ⟨w', hrun, hown, ht'⟩ := h.own.store (d := .held u) (ps := []) K.keyed ht hn (K.key x hx) rfl
  have ho : ∀ p ∈ l', K.ok p.1 := fun p hp => by
    rcases (hm p).1 hp with rfl | ⟨_, hp⟩
    · exact hx
    · exact h.ok p hp
  have he : (dat K l).put (K.kl x) (.held u) = dat K l' := by
    refine Maps.ext (hown.canon K.keyed) (dat_canon hs ho) (fun q => ?_) (fun q z hq => ?_)
    · by_cases e : q = K.kl x
      · subst e
        rw [has_put_same h.own.isMap (K.lit hx), (dat_has ho).2 ⟨(x, u), (hm _).2 (.inl rfl), rfl⟩]
      · rw [has_put_other e]
        refine bool_ext ?_
        rw [dat_has h.ok, dat_has ho]
        constructor
        · rintro ⟨y, hy, rfl⟩
          exact ⟨y, (hm y).2 (.inr ⟨fun e2 => e (by rw [e2]), hy⟩), rfl⟩
        · rintro ⟨y, hy, rfl⟩
          rcases (hm y).1 hy with rfl | ⟨_, hy⟩
          · exact absurd rfl e
          · exact ⟨y, hy, rfl⟩
    · by_cases e : q = K.kl x
      · subst e
        rw [atKey_put_same h.own.isMap (K.lit hx)]
        exact (dat_at hs ho ((hm (x, u)).2 (.inl rfl)) z).symm
      · rw [has_put_other e] at hq
        rw [atKey_put_other e]
        obtain ⟨y, hy, rfl⟩ := (dat_has h.ok).1 hq
        rw [dat_at h.srt h.ok hy, dat_at hs ho ((hm y).2 (.inr ⟨fun e2 => e (by rw [e2]), hy⟩))]
  rw [he] at hown
  have := owns_tight hown
  rw [dat_size] at this
  exact ⟨w', hrun, ⟨this, hs, ho⟩, turned_turn ht'⟩
theorem Mp.del (h : Mp w K b l) {t e : TypeId} (ht : P.underlying t = some (.map k e)) {x : κ} (hx : K.ok x) (ty : TypeId) {l' : List (κ × Value)} (hs : l'.Pairwise fun x y => K.lt x.1 y.1 = true) (hm : ∀ p, p ∈ l' ↔ p.1 ≠ x ∧ p ∈ l) :
    ∃ w', (Builtin.delete_ #[t, k] ty #[.map (some b), K.kv x]).run P w = .ok (.tuple #[]) w' ∧ Mp w' K b l' ∧ Turn (only b) w w' := by
  obtain ⟨w', hrun, hown, ht'⟩ := h.own.drop K.keyed ht (K.key x hx) ty
  have ho : ∀ p ∈ l', K.ok p.1 := fun p hp => h.ok p ((hm p).1 hp).2
  have he : (dat K l).del (K.kl x) = dat K l' := by
    refine Maps.ext (hown.canon K.keyed) (dat_canon hs ho) (fun q => ?_) (fun q z hq => ?_)
    · by_cases e : q = K.kl x
      · subst e
        rw [has_del_same]
        refine (Bool.eq_false_iff.2 fun e => ?_).symm
        obtain ⟨y, hy, e2⟩ := (dat_has ho).1 e
        exact ((hm y).1 hy).1 (K.inj _ _ e2)
      · rw [has_del_other e]
        refine bool_ext ?_
        rw [dat_has h.ok, dat_has ho]
        constructor
        · rintro ⟨y, hy, rfl⟩
          exact ⟨y, (hm y).2 ⟨fun e2 => e (by rw [e2]), hy⟩, rfl⟩
        · rintro ⟨y, hy, rfl⟩
          exact ⟨y, ((hm y).1 hy).2, rfl⟩
    · by_cases e : q = K.kl x
      · subst e
        rw [has_del_same] at hq
        cases hq
      · rw [has_del_other e] at hq
        rw [atKey_del_other e]
        obtain ⟨y, hy, rfl⟩ := (dat_has h.ok).1 hq
        rw [dat_at h.srt h.ok hy, dat_at hs ho ((hm y).2 ⟨fun e2 => e (by rw [e2]), hy⟩)]
  rw [he] at hown
  have := owns_tight hown
  rw [dat_size] at this
  exact ⟨w', hrun, ⟨this, hs, ho⟩, turned_turn ht'⟩
/-- what maps.Clone makes -/
theorem Mp.entries (h : Mp w K b l) : ∃ es clock, w.heap[b]? = some (.map es clock) ∧ ∀ w' b', w'.heap[b']? = some (.map es clock) → Mp w' K b' l := by
  obtain ⟨⟨es, clock, hb, F, hs, hD⟩, h2, h3⟩ := h
  exact ⟨es, clock, hb, fun w' b' hw => ⟨⟨es, clock, hw, F, hs, hD⟩, h2, h3⟩⟩
end
open Ix (Key klt)
theorem before_klt : ∀ a c : Key, bytesBefore a c = klt a c
  | [], [] => rfl
  | [], _ :: _ => rfl
  | _ :: _, [] => rfl
  | x :: a, y :: c => by
    unfold bytesBefore klt
    rw [before_klt a c]
    by_cases h : x.toNat < y.toNat
    · have : x < y := UInt8.lt_iff_toNat_lt.2 h
      simp [h, this]
    · have h2 : ¬ x < y := fun e => h (UInt8.lt_iff_toNat_lt.1 e)
      by_cases h3 : y.toNat < x.toNat
      · have : x ≠ y := fun e => by rw [e] at h3; omega
        simp [h, h2, h3, this]
      · have : x = y := UInt8.toNat_inj.1 (by omega)
        subst this
        simp [h]
/-- keys that are texts -/
def strKK {P : Program} {k : TypeId} (hk : P.underlying k = some .string) : KK P k Key where
  kv x := .string ⟨x.toArray⟩
  kl x := .string x
  ok x := x.length ≤ maxLen
  lt := klt
  keyed := string_keyed hk
  key x hx := by
    have := WideMaps.keyOf_string_mk (s := ⟨x.toArray⟩) hk (by simpa [ByteArray.size] using hx)
    simpa using this
  inj x y h := by injection h
  before := before_klt
  irr := Ix.klt_irr
/-- keys that are numbers -/
def intKK {P : Program} {k : TypeId} (hk : P.underlying k = some (.int .i64)) : KK P k Int where
  kv x := .int .i64 x
  kl x := .int .i64 x
  ok x := (Lit.int .i64 x).wf = true
  lt x y := decide (x < y)
  keyed := int_keyed hk
  key _ hx := keyOf_int_mk hk hx
  inj x y h := by injection h
  before _ _ := rfl
  irr x := by simp
theorem dat_keys {P : Program} {k : TypeId} (hk : P.underlying k = some .string) (l : List (Key × Value)) : strKeys (dat (strKK hk) l) = l.map (·.1) := by
  unfold dat strKeys
  simp only [List.map_map]
  exact List.map_congr_left fun x _ => rfl
theorem klt_le {a c : Key} (h : klt a c = true) : leB a c = true := by
  unfold leB
  rw [decide_eq_true_eq]
  have : ∀ a c : Key, klt a c = true → ¬ c < a := by
    intro a
    induction a with
    | nil => intro c _ h; cases h
    | cons x a ih =>
      intro c h1 h2
      cases c with
      | nil => cases h1
      | cons y c =>
        unfold klt at h1
        rcases (List.cons_lt_cons_iff).1 h2 with h3 | ⟨rfl, h3⟩
        · have h3 := UInt8.lt_iff_toNat_lt.1 h3
          rw [if_neg (by omega), if_pos h3] at h1
          cases h1
        · rw [if_neg (Nat.lt_irrefl _), if_neg (Nat.lt_irrefl _)] at h1
          exact ih c h1 h3
  exact this a c h
/-- keys that rise are those that the sort gives -/
theorem sort_keys {l : List (Key × Value)} (hs : l.Pairwise fun x y => klt x.1 y.1 = true) {ss : List (List UInt8)} (hp : ss.Perm (l.map (·.1))) : ss.mergeSort (fun x y => decide (x ≤ y)) = l.map (·.1) := by
  have h1 : ss.mergeSort leB = (l.map (·.1)).mergeSort leB := mergeSort_of_perm hp
  refine h1.trans (List.mergeSort_of_pairwise ?_)
  rw [List.pairwise_map]
  exact hs.imp fun h => klt_le h
end Go.Proofs.Ytihmpbilbnajpaa
