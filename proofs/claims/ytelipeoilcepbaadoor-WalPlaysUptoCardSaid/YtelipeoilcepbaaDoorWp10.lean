/-
  Texts in one file: PlA Maps PlB PlC PlD. Conditions: the tables and the errors read as the program's text lays them.
-/
import Derived.Test.YtelipeoilcepbaaDoorWp0
import Derived.Test.YtelipeoilcepbaaDoorProg
import Derived.StillTailTactics
import Derived.Deep.QuietTactic
import Derived.BigQuiet
import Derived.WalkSmall
import Derived.Maps.Own
import Derived.Maps.OwnSet
import Derived.Maps.Ext
import Derived.Maps.RangeWalk
import Derived.Deep.MidRow
import Derived.Deep.RegionHeld3
import Derived.Maps.AppendAt
import Derived.Deep.Cut
namespace Go.Proofs.YtelipeoilcepbaaDoor
open Go.RowKit
set_option linter.unusedVariables false
def plantCells (db n c : Nat) (on : Bool) (fuse steps : Int) : Array Value := #[.slice (some ⟨db, 0, none⟩) n c, .bool on, .int .i64 fuse, .int .i64 steps]
section
variable (p db n c : Nat) (on : Bool) (fuse steps : Int) (dev place : Int) (w : World)
theorem has_yes (hb : Blk w p 82 (plantCells db n c on fuse steps)) (h1 : 0 ≤ dev) (h2 : dev < n) :
    Calls Tryd.prog 71 #[.pointer (some ⟨p, 0, none⟩), .int .i64 dev] w fun e w' => e = .returned (.bool true) ∧ w = w' := by
  have h0 : w.cell? ⟨p, 0, none⟩ = some (.slice (some ⟨db, 0, none⟩) n c) := hb.cell 0
  go_enter Tryd.func71, Tryd.ntmps71
  go_wp2
  go_ret
  exact ⟨rfl, rfl⟩
theorem has_no (hb : Blk w p 82 (plantCells db n c on fuse steps)) (h : ¬ (0 ≤ dev ∧ dev < n)) :
    Calls Tryd.prog 71 #[.pointer (some ⟨p, 0, none⟩), .int .i64 dev] w fun e w' => e = .returned (.bool false) ∧ w = w' := by
  have h0 : w.cell? ⟨p, 0, none⟩ = some (.slice (some ⟨db, 0, none⟩) n c) := hb.cell 0
  by_cases h1 : 0 ≤ dev
  · have h2 : (n : Int) ≤ dev := by omega
    clear h
    go_enter Tryd.func71, Tryd.ntmps71
    go_wp2
    go_ret
    exact ⟨ret_bool (by simp; omega), rfl⟩
  · have h1 : dev < 0 := by omega
    clear h
    go_enter Tryd.func71, Tryd.ntmps71
    go_wp2
    go_ret
    exact ⟨rfl, rfl⟩
def refuseCode (on : Bool) (n : Nat) (dev : Int) : Int := if on then (if 0 ≤ dev ∧ dev < n then 0 else 31) else 2
theorem refuse_any (hb : Blk w p 82 (plantCells db n c on fuse steps)) :
    Calls Tryd.prog 69 #[.pointer (some ⟨p, 0, none⟩), .int .i64 dev] w fun e w' => e = .returned (.int .i64 (refuseCode on n dev)) ∧ w = w' := by
  have h1 : w.cell? ⟨p, 1, none⟩ = some (.bool on) := hb.cell 1
  cases on
  · go_enter Tryd.func69, Tryd.ntmps69
    go_wp2_with fail
    go_ret
    exact ⟨rfl, rfl⟩
  · by_cases h : 0 ≤ dev ∧ dev < n
    · go_enter Tryd.func69, Tryd.ntmps69
      go_wp2_with (go_at_call 71; refine (has_yes p db n c _ fuse steps dev _ hb h.1 h.2).mono ?_; rintro e w' ⟨rfl, rfl⟩)
      go_ret
      exact ⟨by simp [refuseCode, h], rfl⟩
    · go_enter Tryd.func69, Tryd.ntmps69
      go_wp2_with (go_at_call 71; refine (has_no p db n c _ fuse steps dev _ hb h).mono ?_; rintro e w' ⟨rfl, rfl⟩)
      go_ret
      exact ⟨by simp [refuseCode, h], rfl⟩
theorem refusePlace_bad (hb : Blk w p 82 (plantCells db n c on fuse steps)) (k : Int) (hk : refuseCode on n dev = k) (h : k = 2 ∨ k = 31) :
    Calls Tryd.prog 66 #[.pointer (some ⟨p, 0, none⟩), .int .i64 dev, .int .i64 place] w fun e w' => e = .returned (.int .i64 k) ∧ w = w' := by
  have hq := fun w => refuse_any p db n c on fuse steps dev w
  rw [hk] at hq
  have Hq := Lib.hid hq
  clear hq hk
  rcases h with rfl | rfl
  all_goals
    go_enter Tryd.func66, Tryd.ntmps66
    go_wp2_with (go_at_call 69; refine (Hq.out _ hb).mono ?_; rintro e w' ⟨rfl, rfl⟩)
    go_ret
    exact ⟨rfl, rfl⟩
theorem refusePlace_good (C : Array Value) (s : Int) (dv : Nat) (hb : Blk w p 82 (plantCells db n c true fuse steps)) (hd : Blk w db 88 C) (h2 : dv < n)
    (hs : C[dv * 4]? = some (.int .i64 s)) (hn : n ≤ 4) :
    Calls Tryd.prog 66 #[.pointer (some ⟨p, 0, none⟩), .int .i64 (dv : Int), .int .i64 place] w fun e w' => e = .returned (.int .i64 (if 0 ≤ place ∧ place < s then 0 else 31)) ∧ w = w' := by
  have h0 : w.cell? ⟨p, 0, none⟩ = some (.slice (some ⟨db, 0, none⟩) n c) := hb.cell 0
  have h4 : w.cell? ⟨db, dv * 4, none⟩ = some (.int .i64 s) := (hd.cell _).trans hs
  have hq : ∀ w, Blk w p 82 (plantCells db n c true fuse steps) → Calls Tryd.prog 69 #[.pointer (some ⟨p, 0, none⟩), .int .i64 (dv : Int)] w fun e w' => e = .returned (.int .i64 0) ∧ w = w' := by
    intro w hb
    have := refuse_any p db n c true fuse steps dv w hb
    rw [show refuseCode true n dv = 0 from by simp [refuseCode, h2]] at this
    exact this
  have Hq := Lib.hid hq
  clear hq
  have Hs := Lib.hid hs
  clear hs
  have g1 : (0 : Int) ≤ (dv : Int) := by omega
  have g2 : (dv : Int) < (n : Int) := by omega
  by_cases hlo : 0 ≤ place
  · by_cases hhi : place < s
    · rw [if_pos ⟨hlo, hhi⟩]
      go_enter Tryd.func66, Tryd.ntmps66
      go_wp2_with (go_at_call 69; refine (Hq.out _ hb).mono ?_; rintro e w' ⟨rfl, rfl⟩)
      go_ret
      exact ⟨rfl, rfl⟩
    · rw [if_neg (by omega)]
      have hhi : s ≤ place := by omega
      go_enter Tryd.func66, Tryd.ntmps66
      go_wp2_with (go_at_call 69; refine (Hq.out _ hb).mono ?_; rintro e w' ⟨rfl, rfl⟩)
      go_ret
      exact ⟨rfl, rfl⟩
  · rw [if_neg (by omega)]
    have hlo : place < 0 := by omega
    go_enter Tryd.func66, Tryd.ntmps66
    go_wp2_with (go_at_call 69; refine (Hq.out _ hb).mono ?_; rintro e w' ⟨rfl, rfl⟩)
    go_ret
    exact ⟨rfl, rfl⟩
def burnt (fuse : Int) : Int := if 0 < fuse then fuse - 1 else fuse
theorem step_burn (hb : Blk w p 82 (plantCells db n c on 0 steps)) :
    Calls Tryd.prog 67 #[.pointer (some ⟨p, 0, none⟩)] w fun e w' => e = .returned (.int .i64 2) ∧ Blk w' p 82 (plantCells db n c false (-1) steps) ∧ Turn (only p) w w' := by
  have h1 : w.cell? ⟨p, 1, none⟩ = some (.bool on) := hb.cell 1
  have h2 : w.cell? ⟨p, 2, none⟩ = some (.int .i64 0) := hb.cell 2
  have f1 := hb.frozen 1
  have f2 := hb.frozen 2
  go_enter Tryd.func67, Tryd.ntmps67
  go_wp2
  go_ret
  exact ⟨rfl, (hb.set_ 1 (.bool false)).set_ 2 (.int .i64 (-1)), ((Turn.refl _ _).at_ _ _).at_ _ _⟩
theorem step_on (hb : Blk w p 82 (plantCells db n c on fuse steps)) (h0 : fuse ≠ 0) (hlo : -9223372036854775808 ≤ fuse) (hhi : fuse ≤ 9223372036854775807) (s0 : 0 ≤ steps) (s1 : steps < 1099511627776) :
    Calls Tryd.prog 67 #[.pointer (some ⟨p, 0, none⟩)] w fun e w' => e = .returned (.int .i64 0) ∧ Blk w' p 82 (plantCells db n c on (burnt fuse) (steps + 1)) ∧ Turn (only p) w w' := by
  have h2 : w.cell? ⟨p, 2, none⟩ = some (.int .i64 fuse) := hb.cell 2
  have h3 : w.cell? ⟨p, 3, none⟩ = some (.int .i64 steps) := hb.cell 3
  have f2 := hb.frozen 2
  have f3 := hb.frozen 3
  have hd : (fuse == 0) = false := by simpa using h0
  by_cases h : 0 < fuse
  · rw [show burnt fuse = fuse - 1 from by simp [burnt, h]]
    clear h0
    go_enter Tryd.func67, Tryd.ntmps67
    go_wp2
    go_ret
    exact ⟨rfl, (hb.set_ 2 (.int .i64 (fuse - 1))).set_ 3 (.int .i64 (steps + 1)), ((Turn.refl _ _).at_ _ _).at_ _ _⟩
  · rw [show burnt fuse = fuse from by simp [burnt, h]]
    have h : fuse < 0 := by omega
    clear h0
    go_enter Tryd.func67, Tryd.ntmps67
    go_wp2
    go_ret
    exact ⟨rfl, hb.set_ 3 (.int .i64 (steps + 1)), (Turn.refl _ _).at_ _ _⟩
theorem fuse_any (m : Int) (hb : Blk w p 82 (plantCells db n c on fuse steps)) :
    Calls Tryd.prog 21 #[.pointer (some ⟨p, 0, none⟩), .int .i64 m] w fun e w' => e = .returned (.tuple #[]) ∧ Blk w' p 82 (plantCells db n c on (if on then m else fuse) steps) ∧ Turn (only p) w w' := by
  have h1 : w.cell? ⟨p, 1, none⟩ = some (.bool on) := hb.cell 1
  have h2 : w.cell? ⟨p, 2, none⟩ = some (.int .i64 fuse) := hb.cell 2
  have f2 := hb.frozen 2
  cases on
  · go_enter Tryd.func21, Tryd.ntmps21
    go_wp2
    go_end0
    exact ⟨rfl, hb, Turn.refl _ _⟩
  · go_enter Tryd.func21, Tryd.ntmps21
    go_wp2
    go_end0
    exact ⟨rfl, hb.set_ 2 (.int .i64 m), (Turn.refl _ _).at_ _ _⟩
theorem len_bad (hb : Blk w p 82 (plantCells db n c on fuse steps)) (h : ¬ (0 ≤ dev ∧ dev < n)) :
    Calls Tryd.prog 55 #[.pointer (some ⟨p, 0, none⟩), .int .i64 dev] w fun e w' => e = .returned (.tuple #[.int .i64 0, .int .i64 31]) ∧ w = w' := by
  go_enter Tryd.func55, Tryd.ntmps55
  go_wp2_with (go_at_call 71; refine (has_no p db n c _ fuse steps dev _ hb h).mono ?_; rintro e w' ⟨rfl, rfl⟩)
  go_ret2
  exact ⟨rfl, rfl⟩
theorem len_good (C : Array Value) (s : Int) (dv : Nat) (hb : Blk w p 82 (plantCells db n c on fuse steps)) (hd : Blk w db 88 C) (h2 : dv < n)
    (hs : C[dv * 4]? = some (.int .i64 s)) (hn : n ≤ 4) :
    Calls Tryd.prog 55 #[.pointer (some ⟨p, 0, none⟩), .int .i64 (dv : Int)] w fun e w' => e = .returned (.tuple #[.int .i64 s, .int .i64 0]) ∧ w = w' := by
  have h0 : w.cell? ⟨p, 0, none⟩ = some (.slice (some ⟨db, 0, none⟩) n c) := hb.cell 0
  have h4 : w.cell? ⟨db, dv * 4, none⟩ = some (.int .i64 s) := (hd.cell _).trans hs
  clear hs
  have g1 : (0 : Int) ≤ (dv : Int) := by omega
  have g2 : (dv : Int) < (n : Int) := by omega
  go_enter Tryd.func55, Tryd.ntmps55
  go_wp2_with (go_at_call 71; refine (has_yes p db n c _ fuse steps dv _ hb g1 g2).mono ?_; rintro e w' ⟨rfl, rfl⟩)
  go_ret2
  exact ⟨rfl, rfl⟩
end
end Go.Proofs.YtelipeoilcepbaaDoor
namespace Go.Proofs.YtelipeoilcepbaaDoor
open Go.RowKit Go.Maps
structure Elem (α : Type) where
  val : α → Value
  R : Value → Option (DataW Unit × List MemPlace)
  enc : α → DataW Unit
  made : ∀ x, R (val x) = some (enc x, [])
  inv : ∀ v y, R v = some y → ∃ x, v = val x ∧ y = (enc x, [])
  inj : ∀ x y, enc x = enc y → x = y
structure MKey (P : Program) (k : TypeId) (κ : Type) where
  kv : κ → Value
  kl : κ → Lit
  ok : κ → Prop
  keyed : Keyed P k
  key : ∀ x, ok x → keyOf P k (kv x) = some (kl x)
  inv : ∀ v l, keyOf P k v = some l → ∃ x, ok x ∧ v = kv x ∧ l = kl x
  inj : ∀ x y, kl x = kl y → x = y
def Tells {P : Program} {k : TypeId} {κ α : Type} (K : MKey P k κ) (E : Elem α) (D : DataW Unit) (f : κ → Option α) : Prop :=
  ∀ x, K.ok x → ∀ z, D.atKey (K.kl x) z = match f x with
    | some a => E.enc a
    | none => z
def MapAt {P : Program} {k : TypeId} {κ α : Type} (w : World) (K : MKey P k κ) (E : Elem α) (b n : Nat) (f : κ → Option α) : Prop :=
  ∃ D, w.ownsMap P k E.R b n D ∧ Tells K E D f
def upd {κ α : Type} [DecidableEq κ] (f : κ → Option α) (x : κ) (a : α) : κ → Option α := fun y => if y = x then some a else f y
def over {κ α : Type} (g f : κ → Option α) : κ → Option α := fun y => match g y with
  | some a => some a
  | none => f y
section
variable {P : Program} {k : TypeId} {κ α : Type} {K : MKey P k κ} {E : Elem α} {w w' : World} {b n m : Nat} {f : κ → Option α} {F : Nat → Prop}
theorem MapAt.lt (h : MapAt w K E b n f) : b < w.heap.size := by
  obtain ⟨D, h, _⟩ := h
  exact h.lt
theorem MapAt.ne {g : Nat} {t : TypeId} {cs : Array Value} (h : MapAt w K E b n f) (h' : Blk w g t cs) : g ≠ b := by
  obtain ⟨D, ⟨es, clock, hb, _⟩, _⟩ := h
  exact cells_ne_map h' hb
theorem MapAt.mono (h : MapAt w K E b n f) (hn : n ≤ m) : MapAt w K E b m f := by
  obtain ⟨D, h, t⟩ := h
  exact ⟨D, h.mono hn, t⟩
theorem MapAt.block (h : MapAt w K E b n f) (hb : w'.heap[b]? = w.heap[b]?) : MapAt w' K E b n f := by
  obtain ⟨D, ⟨es, clock, h1, h2⟩, t⟩ := h
  exact ⟨D, ⟨es, clock, hb.trans h1, h2⟩, t⟩
theorem MapAt.turn (h : MapAt w K E b n f) (ht : Turn F w w') (hn : ¬ F b) : MapAt w' K E b n f := h.block (ht.block b h.lt hn)
theorem MapAt.grown {row : Option Nat} (h : MapAt w K E b n f) (hg : w.grownBy w' row) (hn : some b ≠ row) : MapAt w' K E b n f := h.block (hg.block b h.lt hn)
theorem MapAt.drew (h : MapAt w K E b n f) : MapAt w.drew K E b n f := h
theorem MapAt.alloc (h : MapAt w K E b n f) (o : Obj) : MapAt (w.alloc o) K E b n f := h.block (Below.heap_alloc w o b h.lt)
theorem MapAt.setCell (h : MapAt w K E b n f) {p : Addr} (hp : b ≠ p.block) (u : Value) : MapAt (w.setCell p u) K E b n f := h.block (heap_setCell_other w p b u hp)
theorem MapAt.made (K : MKey P k κ) (E : Elem α) (w : World) : MapAt (w.alloc (.map #[] 0)) K E w.heap.size 0 (fun _ => none) :=
  ⟨_, World.ownsMap_made w P k E.R, fun _ _ _ => rfl⟩
theorem Tells.has {D : DataW Unit} (h : Tells K E D f) {x : κ} (hx : K.ok x) : Maps.has D (K.kl x) = (f x).isSome := by
  have h1 := h x hx
  cases hf : f x with
  | none => rw [hf] at h1; exact has_false_of_atKey h1
  | some a => rw [hf] at h1; exact has_true_of_atKey h1
theorem MapAt.lookup (h : MapAt w K E b n f) {t e : TypeId} (ht : P.underlying t = some (.map k e)) {z0 : α} (hz : (zeroValue e).run P w = .ok (E.val z0) w) {x : κ} (hx : K.ok x) :
    (Instr.lookup t (.map (some b)) (K.kv x) false).run P w = .ok (E.val ((f x).getD z0)) w := by
  obtain ⟨D, h, t⟩ := h
  obtain ⟨v, ps, hrun, hv⟩ := h.lookup K.keyed ht hz (E.made z0) (K.key x hx)
  obtain ⟨y, rfl, hy⟩ := E.inv _ _ hv
  rw [hrun]
  have e1 : D.atKey (K.kl x) (E.enc z0) = E.enc y := congrArg Prod.fst hy
  rw [t x hx] at e1
  cases hf : f x with
  | none => rw [hf] at e1; rw [Option.getD_none, E.inj _ _ e1]
  | some a => rw [hf] at e1; rw [Option.getD_some, E.inj _ _ e1]
theorem MapAt.look_ok (h : MapAt w K E b n f) {t e : TypeId} (ht : P.underlying t = some (.map k e)) {z0 : α} (hz : (zeroValue e).run P w = .ok (E.val z0) w) {x : κ} (hx : K.ok x) :
    (Instr.lookup t (.map (some b)) (K.kv x) true).run P w = .ok (.tuple #[E.val ((f x).getD z0), .bool (f x).isSome]) w := by
  obtain ⟨D, h, t⟩ := h
  obtain ⟨v, ps, hrun, hv⟩ := h.look_ok K.keyed ht hz (E.made z0) (K.key x hx)
  obtain ⟨y, rfl, hy⟩ := E.inv _ _ hv
  rw [hrun, t.has hx]
  have e1 : D.atKey (K.kl x) (E.enc z0) = E.enc y := congrArg Prod.fst hy
  rw [t x hx] at e1
  cases hf : f x with
  | none => rw [hf] at e1; rw [Option.getD_none, E.inj _ _ e1]
  | some a => rw [hf] at e1; rw [Option.getD_some, E.inj _ _ e1]
theorem Tells.put [DecidableEq κ] {D : DataW Unit} (hm : IsMap D) (h : Tells K E D f) {x : κ} (hx : K.ok x) (a : α) : Tells K E (D.put (K.kl x) (E.enc a)) (upd f x a) := by
  intro y hy z
  unfold upd
  by_cases e : y = x
  · subst e
    rw [if_pos rfl, atKey_put_same hm (K.keyed.key (K.key y hx))]
  · rw [if_neg e, atKey_put_other (fun e' => e (K.inj _ _ e'))]
    exact h y hy z
theorem MapAt.update [DecidableEq κ] (h : MapAt w K E b n f) {t e : TypeId} (ht : P.underlying t = some (.map k e)) (hn : n < maxLen) {x : κ} (hx : K.ok x) (a : α) :
    ∃ w', (Instr.mapUpdate t (.map (some b)) (K.kv x) (E.val a)).run P w = .ok () w' ∧ MapAt w' K E b (n + 1) (upd f x a) ∧ w.grownBy w' (some b) := by
  obtain ⟨D, h, t⟩ := h
  have hm := h.isMap
  obtain ⟨w', h1, h2, h3⟩ := h.update K.keyed ht hn (K.key x hx) (E.made a)
  exact ⟨w', h1, ⟨_, h2, t.put hm hx a⟩, h3⟩
theorem wpList_mapUpdate_at [DecidableEq κ] {ops : Array Oper} {rest : List Oper} {o : Oper} {a : Act} {Q : Exit → Act → World → Prop} (hgd : Region.wanted o (yielded ops a.tmps) = true)
    (mm x v : Operand) (t : TypeId) (hop : o.op = Op.mapUpdate t mm x v) (h : MapAt w K E b n f) {e : TypeId} (ht : P.underlying t = some (.map k e)) (hn : n < maxLen) {y : κ} (hy : K.ok y) (u : α)
    (hm : a.eval mm = .map (some b)) (hx : a.eval x = K.kv y) (hv : a.eval v = E.val u)
    (hK : ∀ w', MapAt w' K E b (n + 1) (upd f y u) → w.grownBy w' (some b) → wpList P ops Q rest (a.put o.dst undef) w') :
    wpList P ops Q (o :: rest) a w :=
  wpList_step fun K' hK' => by
    rw [if_pos hgd]
    obtain ⟨w', hrun, r1, r2⟩ := h.update ht hn hy u
    unfold Oper.wp
    simp [execOp, hop, hm, hx, hv, hrun, Result.andThen]
    exact hK' _ _ (hK w' r1 r2)
end
section
variable {P : Program} {k : TypeId} {κ α : Type} {K : MKey P k κ} {E : Elem α} {w w' : World} {b n m : Nat} {f g : κ → Option α}
theorem MapAt.congr (h : MapAt w K E b n f) (hg : ∀ x, K.ok x → g x = f x) : MapAt w K E b n g := by
  obtain ⟨D, h, t⟩ := h
  exact ⟨D, h, fun x hx z => by rw [hg x hx]; exact t x hx z⟩
def Laid (K : MKey P k κ) (Ds : DataW Unit) (fs f : κ → Option α) (left : Lit → Bool) (fd : κ → Option α) : Prop :=
  ∀ x, K.ok x → fd x = if Maps.has Ds (K.kl x) && !left (K.kl x) then fs x else f x
theorem laid_start (Ds : DataW Unit) (fs f : κ → Option α) : Laid K Ds fs f (Maps.has Ds) f := fun x _ => by
  cases Maps.has Ds (K.kl x) <;> rfl
theorem laid_step [DecidableEq κ] {Ds : DataW Unit} {fs f fd : κ → Option α} {left : Lit → Bool} {x : κ} {a : α} (hx : K.ok x) (hs : Tells K E Ds fs) (hat : ∀ zd, Ds.atKey (K.kl x) zd = E.enc a) (h : Laid K Ds fs f left fd) :
    Laid K Ds fs f (fun z => left z && !z.sameKey (K.kl x)) (upd fd x a) := by
  have hfx : fs x = some a := by
    have h1 := hs x hx
    cases hf : fs x with
    | none =>
      rw [hf] at h1
      have h2 := (h1 .nil).symm.trans (hat .nil)
      have h3 := (h1 (.lit (.bool true))).symm.trans (hat _)
      rw [← h3] at h2
      cases h2
    | some a' =>
      rw [hf] at h1
      rw [E.inj a' a ((h1 .nil).symm.trans (hat _))]
  have hhas : Maps.has Ds (K.kl x) = true := by rw [hs.has hx, hfx]; rfl
  intro y hy
  unfold upd
  by_cases e : y = x
  · subst e
    have h1 := WideAt.sameKey_self (K.keyed.key (K.key y hy))
    rw [if_pos rfl, hhas, hfx]
    simp [h1]
  · have h1 : (K.kl y).sameKey (K.kl x) = false := sameKey_ne (fun e' => e (K.inj _ _ e'))
    rw [if_neg e, h y hy]
    simp [h1]
theorem laid_end {Ds : DataW Unit} {fs f fd : κ → Option α} {left : Lit → Bool} (hs : Tells K E Ds fs) (hl : ∀ z, left z = false) (h : Laid K Ds fs f left fd) : ∀ x, K.ok x → over fs f x = fd x := by
  intro x hx
  rw [h x hx, hl, hs.has hx]
  unfold over
  cases fs x <;> rfl
end
noncomputable def intKey {P : Program} {k : TypeId} (hk : P.underlying k = some (.int .i64)) : MKey P k Int where
  kv x := .int .i64 x
  kl x := .int .i64 x
  ok x := (Lit.int .i64 x).wf = true
  keyed := int_keyed hk
  key _ hx := keyOf_int_mk hk hx
  inv v l h := by
    obtain ⟨x, h1, h2, h3⟩ := keyOf_int_inv hk h
    exact ⟨x, h3, h1, h2⟩
  inj x y h := by injection h
def cellsBytes : List Value → Option (List UInt8)
  | [] => some []
  | .int .u8 n :: r => if 0 ≤ n ∧ n < 256 then (cellsBytes r).map (UInt8.ofNat n.toNat :: ·) else none
  | _ :: _ => none
theorem cellsBytes_bcs : ∀ bs : List UInt8, cellsBytes (bcs bs) = some bs
  | [] => rfl
  | x :: r => by
    have h1 : x.toNat < 256 := x.toNat_lt
    have h : 0 ≤ (x.toNat : Int) ∧ (x.toNat : Int) < 256 := by omega
    simp only [bcs, List.map_cons, cellsBytes]
    have hr := cellsBytes_bcs r
    unfold bcs at hr
    rw [if_pos h, hr]
    simp
theorem bcs_of_cellsBytes : ∀ (l : List Value) (bs : List UInt8), cellsBytes l = some bs → l = bcs bs
  | [], bs, h => by
    simp only [cellsBytes, Option.some.injEq] at h
    subst h
    rfl
  | v :: r, bs, h => by
    unfold cellsBytes at h
    split at h
    · cases ‹_ :: _ = []›
    · rename_i n r' e
      injection e with e1 e2
      subst e1 e2
      split at h
      · rename_i hn
        cases hq : cellsBytes r with
        | none => rw [hq] at h; cases h
        | some q =>
          rw [hq] at h
          simp only [Option.map_some, Option.some.injEq] at h
          subst h
          rw [bcs_of_cellsBytes r q hq]
          have : ((UInt8.ofNat n.toNat).toNat : Int) = n := by
            rw [UInt8.toNat_ofNat']
            omega
          simp only [bcs, List.map_cons, this]
      · cases h
    · cases h
def rowV (bs : List UInt8) : Value := .agg (bcs bs).toArray
def rowElem (s : Nat) : Elem { l : List UInt8 // l.length = s } where
  val x := rowV x.1
  R v := match v with
    | .agg cs => match cellsBytes cs.toList with
      | some bs => if bs.length = s then some (.lit (.string bs), []) else none
      | none => none
    | _ => none
  enc x := .lit (.string x.1)
  made x := by
    simp only [rowV, cellsBytes_bcs, x.2, if_true]
  inv v y h := by
    split at h
    · rename_i cs
      split at h
      · rename_i bs hb
        split at h
        · rename_i hs
          cases h
          refine ⟨⟨bs, hs⟩, ?_, rfl⟩
          show _ = rowV bs
          unfold rowV
          rw [← bcs_of_cellsBytes _ _ hb]
        · cases h
      · cases h
    · cases h
  inj x y h := by
    injection h with h
    injection h with h
    exact Subtype.ext h
end Go.Proofs.YtelipeoilcepbaaDoor
namespace Go.Proofs.YtelipeoilcepbaaDoor
open Go.RowKit
set_option linter.unusedVariables false
abbrev Sec := { l : List UInt8 // l.length = 64 }
abbrev Wt := Int × Int × Sec
def wtCells (x : Wt) : List Value := Value.int .i64 x.1 :: Value.int .i64 x.2.1 :: bcs x.2.2.1
noncomputable def kI : MKey Tryd.prog 3 Int := intKey Tryd.underlying3
abbrev eS : Elem Sec := rowElem 64
theorem size_sector : (Tryd.prog.info? 115).map (·.size) = some 64 := by kernel_rfl
theorem size_write : (Tryd.prog.info? 117).map (·.size) = some 66 := by kernel_rfl
theorem range_of_blk {w : World} {g : Nat} {t : TypeId} {cs : Array Value} (h : Blk w g t cs) (o : Nat) (l : List Value) (hl : ∀ j v, l[j]? = some v → cs[o + j]? = some v) : w.rangeAt g o l := fun j v hv => by
  rw [h.cell]
  exact hl j v hv
theorem load_sector {w : World} {g o : Nat} {s : Sec} (h : w.rangeAt g o (bcs s.1)) (W : World) (hW : W.heap = w.heap) :
    (Instr.loadAt 115 (.pointer (some ⟨g, o, none⟩))).run Tryd.prog W = .ok (rowV s.1) W :=
  run_loadAt_mid W g o 115 (bcs s.1) _ (fun j v hv => by
    have := h j v hv
    simpa [World.cell?, hW] using this) Tryd.underlying115 rfl (by rw [size_sector, bcs_length, s.2])
theorem wt_sec (x : Wt) {w : World} {g : Nat} {t : TypeId} (h : Blk w g t (wtCells x).toArray) : w.rangeAt g 2 (bcs x.2.2.1) :=
  range_of_blk h 2 _ fun j v hv => by
    rw [Nat.add_comm]
    simpa [wtCells] using hv
theorem load_write {w : World} {g o : Nat} {x : Wt} (h : w.rangeAt g o (wtCells x)) (W : World) (hW : W.heap = w.heap) :
    (Instr.loadAt 117 (.pointer (some ⟨g, o, none⟩))).run Tryd.prog W = .ok (.agg (wtCells x).toArray) W :=
  run_loadAt_mid W g o 117 (wtCells x) _ (fun j v hv => by
    have := h j v hv
    simpa [World.cell?, hW] using this) Tryd.underlying117 rfl (by rw [size_write]; simp [wtCells, bcs_length, x.2.2.2])
theorem wt_all (x : Wt) {w : World} {g : Nat} {t : TypeId} (h : Blk w g t (wtCells x).toArray) : w.rangeAt g 0 (wtCells x) :=
  range_of_blk h 0 _ fun j v hv => by
    rw [Nat.zero_add]
    simpa using hv
theorem run_load {P : Program} {a : Act} {o : Oper} {ty : TypeId} {x : Operand} {p v : Value} {W : World} (ho : o.op = .load ty x) (hx : a.eval x = p) (h : (Instr.loadAt ty p).run P W = .ok v W) : (execOp a.eval o).run P W = .ok (.value v) W := by
  unfold execOp
  simp only [ho, hx, h, Sem.run_bind, Sem.run_pure, Result.andThen_ok]
theorem run_build_one {P : Program} {a : Act} {o : Oper} {t : TypeId} {x : Operand} {u v : Value} {W W' : World} (ho : o.op = .buildSlice t 1 #[(0, x)]) (hx : a.eval x = u) (h : (Instr.buildSlice t 1 #[(0, u)]).run P W = .ok v W') : (execOp a.eval o).run P W = .ok (.value v) W' := by
  unfold execOp
  simp only [ho, List.map_toArray, List.map_cons, List.map_nil, hx, h, Sem.run_bind, Sem.run_pure, Result.andThen_ok]
def zeroSec : Sec := ⟨List.replicate 64 0, rfl⟩
theorem info_write : (Tryd.prog.info? 117).map (fun i => (i.zero, i.size, i.bytes)) = some (some (.agg (wtCells (0, 0, zeroSec)).toArray), 66, 80) := by kernel_rfl
theorem wtCells_length (x : Wt) : (wtCells x).length = 66 := by simp [wtCells, bcs_length, x.2.2.2]
theorem wtCells_one (x : Wt) : ∀ u ∈ wtCells x, u.oneCell' = true := by
  intro u hu
  simp only [wtCells, List.mem_cons] at hu
  rcases hu with rfl | rfl | hu
  · rfl
  · rfl
  · exact bcs_one _ u hu
def Waits (w : World) (v : Value) (ws : List Wt) : Prop := w.ownsRow 0 117 66 v ws.length (ws.flatMap wtCells)
theorem Waits.keep {w w' : World} {v : Value} {ws : List Wt} (h : Waits w v ws) (hk : ∀ g, v.ownBlock = some g → w'.heap[g]? = w.heap[g]?) : Waits w' v ws := by
  refine ⟨h.1, ?_⟩
  rcases h.2 with h2 | ⟨g, cap, cur, rfl, h3, h4, h5⟩
  · exact .inl h2
  · exact .inr ⟨g, cap, cur, rfl, h3, (hk g rfl).trans h4, h5⟩
theorem Waits.turn {F : Nat → Prop} {w w' : World} {v : Value} {ws : List Wt} (h : Waits w v ws) (ht : Turn F w w') (hF : ∀ g, v.ownBlock = some g → ¬ F g) : Waits w' v ws :=
  h.keep fun g hg => ht.block g (h.lt g hg).2 (hF g hg)
theorem Waits.form {w : World} {v : Value} {ws : List Wt} (h : Waits w v ws) : ∃ A n c, v = .slice A n c := by
  rcases h.2 with ⟨rfl, h2⟩ | ⟨g, cap, cur, rfl, _⟩
  · exact ⟨none, 0, 0, rfl⟩
  · exact ⟨_, _, _, rfl⟩
def Goes (w : World) (v v' : Value) : Prop := v'.ownBlock = v.ownBlock ∨ ∃ g, v'.ownBlock = some g ∧ w.heap.size ≤ g
set_option maxHeartbeats 1000000 in
set_option maxRecDepth 20000 in
theorem add_walk (db o nw nn : Nat) (f : Int → Option Sec) (x : Wt) (C : Array Value) (wv : Value) (ws : List Wt) (w : World)
    (hd : Blk w db 88 C) (h2 : C[o + 2]? = some (.map (some nw))) (h3 : C[o + 3]? = some wv) (hm : MapAt w kI eS nw nn f) (hx : (Lit.int .i64 x.2.1).wf = true)
    (hown : Waits w wv ws) (hn : nn < 1099511627776) (hl : ws.length < 1099511627776) :
    Calls Tryd.prog 68 #[.pointer (some ⟨db, o, none⟩), .agg (wtCells x).toArray] w fun e w' => e = .returned (.tuple #[]) ∧
      ∃ wv', Blk w' db 88 (C.setIfInBounds (o + 3) wv') ∧ MapAt w' kI eS nw (nn + 1) (upd f x.2.1 x.2.2) ∧ Waits w' wv' (ws ++ [x]) ∧ Goes w wv wv' ∧
        Turn (fun k => k = db ∨ k = nw ∨ wv.ownBlock = some k) w w' := by
  obtain ⟨i0, hi0, hz0, hz1, hz2⟩ := info_parts info_write
  go_enter Tryd.func68, Tryd.ntmps68
  go_wp2
  have hG := Blk.new w 117 (wtCells x).toArray
  have hd1 := hd.alloc (.cells (wtCells x).toArray 117)
  have hm1 := hm.alloc (.cells (wtCells x).toArray 117)
  have ho1 : Waits _ wv ws := hown.alloc (.cells (wtCells x).toArray 117)
  have t1 : Turn (fun k => k = db ∨ k = nw ∨ wv.ownBlock = some k) w _ := (Turn.refl _ _).alloc (.cells (wtCells x).toArray 117)
  have hlt := fun g hg => (hown.lt g hg).2
  generalize (w.alloc (.cells (wtCells x).toArray 117)) = w1 at *
  have hGe : w.heap.size = w.heap.size := rfl
  generalize hGG : w.heap.size = G at hG ⊢
  have Hlt := Lib.hid hlt
  have HGG := Lib.hid hGG
  clear hlt hGe hGG
  have c2 : w1.cell? ⟨db, o + 2, none⟩ = some (.map (some nw)) := (hd1.cell _).trans h2
  have g1 : w1.cell? ⟨G, 1, none⟩ = some (.int .i64 x.2.1) := (hG.cell _).trans (by simp [wtCells])
  have Hs := Lib.hid (load_sector (wt_sec x hG))
  have Hm := Lib.hid hm1
  have H3 := Lib.hid h3
  have Ho := Lib.hid ho1
  have Hn := hm1.ne hd1
  have Hn2 := hm1.ne hG
  clear hm hm1 h2 h3 hown ho1
  refine wp_region_still_tail 8 (by kernel_rfl) (by kernel_rfl) ?_
  simp only [List.take_succ_cons, List.take_zero, List.drop_succ_cons, List.drop_zero]
  iterate 7 still_step
  refine wpStill_load rfl _ _ rfl _ _ rfl (Hs.out _ rfl) ?_
  refine wpStill_nil ?_
  change wpList _ _ _ _ _ w1.drew
  refine wpList_mapUpdate_at rfl _ _ _ _ rfl Hm.out.drew Tryd.underlying85 (by unfold maxLen; omega) hx x.2.2 rfl rfl rfl ?_
  intro w2 hm2 hg2
  have hd2 := hd1.drew.grown hg2 (fun e => Hn (Option.some.inj e))
  have hG2 := hG.drew.grown hg2 (fun e => Hn2 (Option.some.inj e))
  have t2 := t1.drew.grown hg2 (fun g e _ => .inr (.inl (Option.some.inj e).symm))
  have ho2 : Waits w2 wv ws := Ho.out.keep (w' := w2) fun g hg => hg2.block g (by exact (Ho.out.lt g hg).2) (fun e => by
    obtain ⟨D, ⟨es, clock, hb, _⟩, _⟩ := Hm.out
    rcases Ho.out.2 with ⟨e1, _⟩ | ⟨g', cap, cur, e1, _, h4, _⟩
    · rw [e1] at hg
      cases hg
    · rw [e1] at hg
      injection hg with hg
      have hg' : g' = g := hg
      subst hg'
      exact cells_ne_map (g := g') (b := nw) h4 hb (Option.some.inj e))
  clear hd1 hG hg2 t1 c2 g1 Hs Hm Ho
  have c3 : w2.cell? ⟨db, o + 3, none⟩ = some wv := (hd2.cell _).trans H3.out
  have f3 := hd2.frozen (o + 3)
  have Hw := Lib.hid (load_write (wt_all x hG2))
  have Hm2 := Lib.hid hm2
  clear hm2
  go_wp2
  have hS0 : Blk w2.drew db 88 C ∧ Blk w2.drew G 117 (wtCells x).toArray := ⟨hd2, hG2⟩
  refine wp_region_till (fun W => Blk W db 88 C ∧ Blk W G 117 (wtCells x).toArray) 8 (by kernel_rfl) ?_
  refine till_take (i := 0) (v := .pointer (some ⟨db, o, none⟩)) rfl (by kernel_rfl) (by kernel_rfl) (fun _ _ _ h => h) (.inl ⟨by rfl, fun W hW => by go_simp⟩) hS0 ?_
  simp only [zz]
  refine till_take (i := 1) (v := .pointer (some ⟨db, o, none⟩)) rfl (by kernel_rfl) (by kernel_rfl) (fun _ _ _ h => h) (.inl ⟨by rfl, fun W hW => by go_simp⟩) hS0 ?_
  simp only [zz]
  refine till_take (i := 2) (v := .pointer (some ⟨db, o, none⟩)) rfl (by kernel_rfl) (by kernel_rfl) (fun _ _ _ h => h) (.inl ⟨by rfl, fun W hW => by go_simp⟩) hS0 ?_
  simp only [zz]
  refine till_take (i := 3) (v := .pointer (some ⟨db, o + 3, none⟩)) rfl (by kernel_rfl) (by kernel_rfl) (fun _ _ _ h => h) (.inl ⟨by rfl, fun W hW => by go_simp⟩) hS0 ?_
  simp only [zz]
  refine till_take (i := 4) (v := wv) rfl (by kernel_rfl) (by kernel_rfl) (fun _ _ _ h => h) (.inl ⟨by rfl, fun W hW => by have c := (hW.1.cell (o + 3)).trans H3.out; go_simp⟩) hS0 ?_
  simp only [zz]
  refine till_take (i := 5) (v := .agg (wtCells x).toArray) rfl (by kernel_rfl) (by kernel_rfl) (fun _ _ _ h => h) (.inl ⟨by rfl, fun W hW => run_load rfl rfl (load_write (wt_all x hW.2) W rfl)⟩) hS0 ?_
  simp only [zz]
  refine till_only (i := 6) (by kernel_rfl) rfl rfl ?_
  refine wp_run (run_build_one (x := .tmp 17) (u := .agg (wtCells x).toArray) rfl rfl (run_buildSlice_one (v := .agg (wtCells x).toArray) Tryd.underlying86 hi0 hz0 (by rw [hz1]; simp [Value.cells, wtCells_length]) (by rw [hz1]; simp [Value.cells, wtCells_length]) (by omega) (by omega) _)) ?_
  have hG3 := Blk.new w2.drew 117 (wtCells x).toArray
  have hS3 : Blk _ db 88 C ∧ Blk _ G 117 (wtCells x).toArray := ⟨hS0.1.alloc (.cells (wtCells x).toArray 117), hS0.2.alloc (.cells (wtCells x).toArray 117)⟩
  have hm3 := Hm2.out.drew.alloc (.cells (wtCells x).toArray 117)
  have ho3 : Waits _ wv ws := World.ownsRow.alloc (w := w2.drew) ho2 (.cells (wtCells x).toArray 117)
  have t3 := t2.drew.alloc (.cells (wtCells x).toArray 117)
  have hdbw : ∀ (g : Nat), wv.ownBlock = some g → g ≠ db ∧ g ≠ G ∧ g < w2.heap.size := by
    intro g hg
    have hgl := Hlt.out g hg
    rw [HGG.out] at hgl
    refine ⟨?_, by omega, (ho2.lt g hg).2⟩
    rcases ho2.2 with ⟨e1, _⟩ | ⟨g', cap, cur, e1, _, h4, _⟩
    · rw [e1] at hg
      cases hg
    · rw [e1] at hg
      injection hg with hg
      have hg' : g' = g := hg
      subst hg'
      exact Blk.ne_ (w := w2) (g := g') (cs := cur) h4 hd2 (by decide)
  refine ⟨fun _ => hS3, ?_⟩
  obtain ⟨wv', w4, hrun, hown4, hg4, _, hat⟩ := run_append_own_at (P := Tryd.prog) (w2.drew.alloc (.cells (wtCells x).toArray 117)) 0 86 86 117 i0 _ 66 80 Tryd.underlying86 hi0 hz0 hz1 hz2
    (by simp [Value.cells, wtCells_length]) (by omega) wv ws.length _ ho3 ⟨w2.heap.size, 0, none⟩ 1 1 (wtCells x) (by rw [wtCells_length]) (fun j u hj => by
      have := hG3.cell j
      rw [add_nat, Nat.zero_add]
      exact this.trans (by simpa using hj)) (wtCells_one x) (by unfold maxLen; omega) (by omega) (Nat.zero_le _)
  simp only [Act.put, List.setIfInBounds_toArray, List.set_cons_zero, List.set_cons_succ, Value.cells]
  refine till_only (i := 7) (by kernel_rfl) rfl rfl ?_
  refine wp_append (.tmp 16) (.tmp 18) _ rfl rfl rfl hrun ?_
  have hd4 : Blk w4 db 88 C := hS3.1.grown hg4 (fun e => (hdbw db e.symm).1 rfl)
  have hG4 : Blk w4 G 117 (wtCells x).toArray := hS3.2.grown hg4 (fun e => (hdbw G e.symm).2.1 rfl)
  have hm4 : MapAt w4 kI eS nw (nn + 1) (upd f x.2.1 x.2.2) := hm3.grown hg4 (fun e => by
    rcases ho2.2 with ⟨e1, _⟩ | ⟨g', cap, cur, e1, _, h4, _⟩
    · rw [e1] at e
      cases e
    · rw [e1] at e
      injection e with e
      have e' : nw = g' := e
      exact Hm2.out.ne (w := w2) (g := g') h4 e'.symm)
  have t4 := t3.grown hg4 (fun g e _ => .inr (.inr e))
  have hat4 : Goes w wv wv' := by
    rcases hat with e | e
    · exact .inl e
    · refine .inr ⟨_, e, ?_⟩
      have := t2.size
      simp
      omega
  have c4 : w4.cell? ⟨db, o + 3, none⟩ = some wv := (hd4.cell _).trans H3.out
  have f4 := hd4.frozen (o + 3)
  have ho4 : Waits w4 wv' (ws ++ [x]) := by
    unfold Waits
    rw [List.length_append, List.flatMap_append]
    simpa using hown4
  obtain ⟨A', n', c', rfl⟩ := ho4.form
  refine ⟨fun _ => ⟨hd4, hG4⟩, ?_⟩
  refine till_tail 8 rfl (by kernel_rfl) ?_
  clear hd2 hG2 ho2 c3 f3 Hw Hm2 hS0 hG3 hS3 hm3 ho3 hrun hown4 hg4 hat hdbw
  have Ho := Lib.hid ho4
  have Hm := Lib.hid hm4
  have Ht := Lib.hid t4
  have Ha := Lib.hid hat4
  have Hg : ∀ g, (Value.slice A' n' c').ownBlock = some g → g ≠ db := by
    intro g hg
    rcases ho4.2 with ⟨e1, _⟩ | ⟨g', cap, cur, e1, _, h4, _⟩
    · rw [e1] at hg
      cases hg
    · rw [e1] at hg
      injection hg with hg
      have hg' : g' = g := hg
      subst hg'
      exact Blk.ne_ (w := w4) (g := g') (cs := cur) h4 hd4 (by decide)
  have Hg := Lib.hid Hg
  clear ho4 hm4 t4 hat4 t2 t3
  go_wp2
  refine NoPanic.normal ?_
  go_wp2
  go_end0
  exact ⟨rfl, _, hd4.set_ _ _, Hm.out.setCell (p := ⟨db, o + 3, none⟩) (Ne.symm Hn) _, Ho.out.keep fun g hg => heap_setCell_other _ _ _ _ (Hg.out g hg), Ha.out, Ht.out.setCell (p := ⟨db, o + 3, none⟩) (fun _ => .inl rfl) _⟩
end Go.Proofs.YtelipeoilcepbaaDoor
namespace Go.Proofs.YtelipeoilcepbaaDoor
open Go.RowKit
set_option maxRecDepth 20000
set_option linter.unusedVariables false
theorem zero_sector (w : World) : (zeroValue 115).run Tryd.prog w = .ok (eS.val zeroSec) w := by kernel_rfl
theorem map_sector : Tryd.prog.underlying 85 = some (.map 3 115) := Tryd.underlying85
theorem sec_one (s : Sec) : ∀ v ∈ (bcs s.1).toArray.toList, v.oneCell' = true := fun v hv => bcs_one s.1 v (by simpa using hv)
theorem size_sec (s : Sec) : (Tryd.prog.info? 115).map (·.size) = some (bcs s.1).toArray.size := by rw [size_sector]; simp [bcs_length, s.2]
def reads (nf ff : Int → Option Sec) (place : Int) : Sec := match nf place with
  | some s => s
  | none => (ff place).getD zeroSec
theorem sec_size (s : Sec) : 64 = (bcs s.1).toArray.size := by simp [bcs_length, s.2]
theorem load_blk {w : World} {g : Nat} {t : TypeId} {s : Sec} (h : Blk w g t (bcs s.1).toArray) (W : World) (hW : W.heap = w.heap) :
    (Instr.loadAt 115 (.pointer (some ⟨g, 0, none⟩))).run Tryd.prog W = .ok (rowV s.1) W :=
  load_sector (range_of_blk h 0 _ fun j v hv => by
    rw [Nat.zero_add]
    simpa using hv) W hW
theorem read_walk (db o nw fl n1 n2 : Nat) (nf ff : Int → Option Sec) (place : Int) (C : Array Value) (w : World)
    (hd : Blk w db 88 C) (h1 : C[o + 1]? = some (.map (some fl))) (h2 : C[o + 2]? = some (.map (some nw))) (hm1 : MapAt w kI eS fl n1 ff) (hm2 : MapAt w kI eS nw n2 nf) (hx : (Lit.int .i64 place).wf = true) :
    Calls Tryd.prog 77 #[.pointer (some ⟨db, o, none⟩), .int .i64 place] w fun e w' => e = .returned (rowV (reads nf ff place).1) ∧ Turn nowhere w w' := by
  have ldb := hd.lt
  go_enter Tryd.func77, Tryd.ntmps77
  go_upto_region 1 with (fail)
  change Code.wp _ _ _ _ (w.alloc (.cells (bcs zeroSec.1).toArray 115))
  have hR := Blk.new w 115 (bcs zeroSec.1).toArray
  have hd1 := hd.alloc (.cells (bcs zeroSec.1).toArray 115)
  have ha := hm1.alloc (.cells (bcs zeroSec.1).toArray 115)
  have hb := hm2.alloc (.cells (bcs zeroSec.1).toArray 115)
  have ht : Turn nowhere w _ := (Turn.refl _ _).alloc (.cells (bcs zeroSec.1).toArray 115)
  generalize (w.alloc (.cells (bcs zeroSec.1).toArray 115)) = w1 at *
  generalize hR0 : w.heap.size = R at *
  have HR := Lib.hid hR0
  have Ht := Lib.hid ht
  clear hR0 ht hm1 hm2 hd
  have c1 : w1.cell? ⟨db, o + 1, none⟩ = some (.map (some fl)) := (hd1.cell _).trans h1
  have c2 : w1.cell? ⟨db, o + 2, none⟩ = some (.map (some nw)) := (hd1.cell _).trans h2
  have lk : (Instr.lookup 85 (.map (some nw)) (.int .i64 place) true).run Tryd.prog w1 = .ok (.tuple #[rowV ((nf place).getD zeroSec).1, .bool (nf place).isSome]) w1 := hb.look_ok map_sector (zero_sector _) hx
  cases hn : nf place with
  | some s =>
    rw [hn] at lk
    have Hr : Hid (reads nf ff place = s) := Lib.hid (by unfold reads; rw [hn])
    simp only [Option.getD_some, Option.isSome_some] at lk
    have Hn := Lib.hid hn
    clear hn
    go_wp2_with (first
      | (refine wpList_store_row rfl 115 (.tmp 5) (.tmp 14) rfl (bcs s.1).toArray (Blk.new w1 _ _) rfl rfl (sec_size s) (size_sec s) (sec_one s) ?_; intro w2 hb2 ht2)
      | (refine wpList_run rfl (exec_load (ty := 115) (x := .tmp 5) rfl rfl (load_blk hb2 _ rfl)) ?_)
      | (refine wpList_store_row rfl 115 (.tmp 4) (.tmp 17) rfl (bcs s.1).toArray ((hR.alloc _).turn ht2 (Nat.ne_of_lt hR.lt)) rfl rfl (sec_size s) (size_sec s) (sec_one s) ?_; intro w3 hb3 ht3))
    refine bodyPost_ret (v := rowV s.1) (results_cell_row rfl _ _ R 115 _ (0, 0) _ rfl hb3 Tryd.underlying115 rfl (size_sec s)) rfl ⟨by rw [Hr.out], ?_⟩
    refine ((Ht.out.alloc _).trans ht2 fun k hk e => ?_).trans ht3 fun k hk e => ?_
    · have := Ht.out.size
      exact (by unfold only at e; omega : False).elim
    · have := HR.out
      exact (by unfold only at e; omega : False).elim
  | none =>
    rw [hn] at lk
    have Hr : Hid (reads nf ff place = (ff place).getD zeroSec) := Lib.hid (by unfold reads; rw [hn])
    simp only [Option.getD_none, Option.isSome_none] at lk
    have Hn := Lib.hid hn
    clear hn
    go_wp2_with (first
      | (refine wpList_store_row rfl 115 (.tmp 5) (.tmp 14) rfl (bcs zeroSec.1).toArray (Blk.new w1 _ _) rfl rfl (sec_size zeroSec) (size_sec zeroSec) (sec_one zeroSec) ?_; intro w2 hb2 ht2; have c1' : w2.cell? ⟨db, o + 1, none⟩ = some (.map (some fl)) := (((hd1.alloc _).turn ht2 (Nat.ne_of_lt hd1.lt)).cell _).trans h1)
      | (refine wpList_run rfl (exec_lookup (M := .map (some fl)) (k := .int .i64 place) rfl rfl rfl (((ha.alloc _).turn ht2 (Nat.ne_of_lt ha.lt)).lookup map_sector (zero_sector _) hx)) ?_)
      | (refine wpList_store_row rfl 115 (.tmp 4) (.tmp 23) rfl (bcs ((ff place).getD zeroSec).1).toArray ((hR.alloc _).turn ht2 (Nat.ne_of_lt hR.lt)) rfl rfl (sec_size _) (size_sec _) (sec_one _) ?_; intro w3 hb3 ht3))
    refine bodyPost_ret (v := rowV ((ff place).getD zeroSec).1) (results_cell_row rfl _ _ R 115 _ (0, 0) _ rfl hb3 Tryd.underlying115 rfl (size_sec _)) rfl ⟨by rw [Hr.out], ?_⟩
    refine ((Ht.out.alloc _).trans ht2 fun k hk e => ?_).trans ht3 fun k hk e => ?_
    · have := Ht.out.size
      exact (by unfold only at e; omega : False).elim
    · have := HR.out
      exact (by unfold only at e; omega : False).elim
theorem forget_walk (db o : Nat) (C : Array Value) (w : World) (hd : Blk w db 88 C) (hs : o + 3 < C.size) :
    Calls Tryd.prog 45 #[.pointer (some ⟨db, o, none⟩)] w fun e w' => e = .returned (.tuple #[]) ∧
      Blk w' db 88 ((C.setIfInBounds (o + 2) (.map (some w.heap.size))).setIfInBounds (o + 3) (.slice none 0 0)) ∧ MapAt w' kI eS w.heap.size 0 (fun _ => none) ∧ Turn (only db) w w' := by
  have c2 : (w.cell? ⟨db, o + 2, none⟩) = some (C[o + 2]'(by omega)) := (hd.cell _).trans (Array.getElem?_eq_getElem _)
  have c3 : (w.cell? ⟨db, o + 3, none⟩) = some (C[o + 3]'(by omega)) := (hd.cell _).trans (Array.getElem?_eq_getElem _)
  have f2 := hd.frozen (o + 2)
  have f3 := hd.frozen (o + 3)
  have ldb := hd.lt
  have hmm := @run_makeMap Tryd.prog
  go_enter Tryd.func45, Tryd.ntmps45
  go_wp2
  go_end0
  refine ⟨rfl, ((hd.set_ _ _).set_ _ _).alloc _, ?_, (((Turn.refl _ _).at_ _ _).at_ _ _).alloc _⟩
  have h := MapAt.made kI eS ((w.setCell ⟨db, o + 2, none⟩ (.map (some w.heap.size))).setCell ⟨db, o + 3, none⟩ (.slice none 0 0))
  simpa using h
end Go.Proofs.YtelipeoilcepbaaDoor
namespace Go.Proofs.YtelipeoilcepbaaDoor
open Go.RowKit Go.Maps
set_option maxRecDepth 20000
set_option linter.unusedVariables false
set_option maxHeartbeats 2000000 in
theorem copy_walk (bd bs nd ns : Nat) (f fs : Int → Option Sec) (w : World) (hd : MapAt w kI eS bd nd f) (hs : MapAt w kI eS bs ns fs) (hne : bd ≠ bs) (hroom : nd + ns < 2199023255552) :
    Calls Tryd.prog 79 #[.map (some bd), .map (some bs)] w fun e w' => e = .returned (.tuple #[]) ∧ MapAt w' kI eS bd (nd + ns) (over fs f) ∧ Turn (only bd) w w' := by
  obtain ⟨Ds, hso, hst⟩ := hs
  have hbd := hd.lt
  have hbs := hso.lt
  have hsz := hso.size_le
  go_enter Tryd.func79, Tryd.ntmps79
  go_wp2_with (first
    | (at_range; refine wpList_range_own _ rfl _ 85 rfl 3 115 kI.keyed map_sector eS.R bs ns _ rfl hso ?_; intro w0 hrg0 hg0 hs0))
  go_frame
  go_loopw [8] (fun _ wr => ∃ (left : Lit → Bool) (cnt : Nat) (fd : Int → Option Sec), wr.ranges Tryd.prog 3 eS.R bs w.heap.size ns Ds left cnt ∧ cnt ≤ Maps.size Ds ∧
      MapAt wr kI eS bd (nd + (Maps.size Ds - cnt)) fd ∧ Laid kI Ds fs f left fd ∧ Turn (only bd) w wr)
    (fun _ wr => wr.rangeLeft bs w.heap.size)
  case atStart =>
    exact ⟨_, _, f, hrg0, Nat.le_refl _, (hd.grown hg0 (by simp)).mono (by omega), laid_start Ds fs f, (Turn.refl _ _).grown hg0 (fun g e => by cases e)⟩
  case round =>
    obtain ⟨left, cnt, fd, hrg, hcs, hout, hL, ht⟩ := hrel
    have hbd' : bd ≠ w.heap.size := Nat.ne_of_lt hbd
    go_wp2_with (first
      | (at_next; refine wpList_next_ranges _ rfl _ rfl 3 kI.keyed eS.R (fun x : Int => Value.int .i64 x) (fun s : List UInt8 => rowV s) (fun key kl h => by obtain ⟨x, _, h1, _⟩ := kI.inv key kl h; exact ⟨x, h1⟩) (fun v y h => by obtain ⟨x, h1, _⟩ := eS.inv v y h; exact ⟨x.1, h1⟩) bs w.heap.size ns _ _ _ rfl hrg ?_ ?_))
    · intro hc0 hl0
      go_wp2
      go_end0
      refine ⟨rfl, (hout.mono (by omega)).congr fun x hx => laid_end hst hl0 hL x hx, ht⟩
    · intro x c0 kl yd yp w1 cnt1 hkey hlx hv hat hrg1 hlt hg1 hs1 hen
      obtain ⟨c, hc, hy⟩ := eS.inv _ _ hv
      obtain rfl : c0 = c.1 := by
        have h1 : Value.agg (bcs c0).toArray = Value.agg (bcs c.1).toArray := hc
        injection h1 with h1
        have h2 := congrArg (fun a : Array Value => cellsBytes a.toList) h1
        simpa [cellsBytes_bcs] using h2
      obtain ⟨rfl, rfl⟩ := Prod.mk.inj hy
      obtain ⟨x', hx, e1, rfl⟩ := kI.inv _ _ hkey
      obtain rfl : x = x' := by
        injection e1
      have hout1 := hout.grown hg1 (fun e => hbd' (Option.some.inj e))
      have ht1 := ht.grown hg1 (fun g e hg => by cases e; omega)
      have hL1 := laid_step hx hst hat hL
      have HL := Lib.hid hL1
      have Hat := Lib.hid hat
      have Hlt := Lib.hid hlt
      have Hrg := Lib.hid hrg
      have Hs1 := Lib.hid hs1
      clear hL hL1 hat hv e1 hkey hlx hrg hlt hc hy hs1
      go_wp2_with (first
        | (refine wpList_store_row rfl 115 (.tmp 5) (.tmp 12) rfl (bcs c.1).toArray (Blk.new w1 _ _) rfl rfl (sec_size c) (size_sec c) (sec_one c) ?_; intro w2 hb2 ht2)
        | (refine wpList_run rfl (exec_load (ty := 115) (x := .tmp 5) rfl rfl (load_blk hb2 _ rfl)) ?_)
        | (at_mapUpdate; refine wpList_mapUpdate_at rfl _ _ _ _ rfl ((hout1.alloc _).turn ht2 (Nat.ne_of_lt hout1.lt)) map_sector (by unfold maxLen; omega) hx c rfl rfl rfl ?_; intro w3 hm3 hg3; go_frame))
      have hrg2 := ((hrg1.alloc _).kept ht2.grow1 (fun e => by have := Option.some.inj e; have := hrg1.lt; omega) (fun e => by have := Option.some.inj e; have := hrg1.lt; omega)).kept hg3 (fun e => hne (Option.some.inj e).symm) (fun e => hbd' (Option.some.inj e).symm)
      go_roundw
      case rel =>
        exact ⟨_, cnt1, _, hrg2, by have := Hlt.out; omega, hm3.mono (by have := Hlt.out; omega), HL.out, (((ht1.alloc _).trans ht2 (fun k hk e => by unfold only at e; have := ht1.size; omega)).grown hg3 (fun g e _ => (Option.some.inj e).symm))⟩
      case measure =>
        rw [hrg2.left_eq, Hrg.out.left_eq]
        exact Hlt.out
set_option maxHeartbeats 1000000 in
theorem flush_walk (db o fl nw n1 n2 : Nat) (ff nf : Int → Option Sec) (C : Array Value) (w : World)
    (hd : Blk w db 88 C) (h1 : C[o + 1]? = some (.map (some fl))) (h2 : C[o + 2]? = some (.map (some nw))) (hs : o + 3 < C.size) (hm1 : MapAt w kI eS fl n1 ff) (hm2 : MapAt w kI eS nw n2 nf) (hne : fl ≠ nw) (hroom : n1 + n2 < 2199023255552) :
    Calls Tryd.prog 70 #[.pointer (some ⟨db, o, none⟩)] w fun e w' => e = .returned (.tuple #[]) ∧
      ∃ nw', w.heap.size ≤ nw' ∧ Blk w' db 88 ((C.setIfInBounds (o + 2) (.map (some nw'))).setIfInBounds (o + 3) (.slice none 0 0)) ∧ MapAt w' kI eS fl (n1 + n2) (over nf ff) ∧ MapAt w' kI eS nw' 0 (fun _ => none) ∧
        Turn (fun k => k = db ∨ k = fl) w w' := by
  have c1 : w.cell? ⟨db, o + 1, none⟩ = some (.map (some fl)) := (hd.cell _).trans h1
  have c2 : w.cell? ⟨db, o + 2, none⟩ = some (.map (some nw)) := (hd.cell _).trans h2
  have H1 := Lib.hid hm1
  have H2 := Lib.hid hm2
  have Hd := Lib.hid hd
  clear hm1 hm2 hd h1 h2
  go_enter Tryd.func70, Tryd.ntmps70
  go_wp2_with fail
  go_still_tail 8, (by kernel_rfl)
  change wpList _ _ _ _ _ w.drew
  go_wp2_with fail
  refine (copy_walk fl nw n1 n2 ff nf _ H1.out.drew H2.out.drew hne hroom).mono ?_
  rintro e w1 ⟨rfl, hm, ht⟩
  have hd1 : Blk w1 db 88 C := Hd.out.drew.turn ht (H1.out.ne Hd.out)
  have Hm := Lib.hid hm
  have Ht := Lib.hid ht
  clear hm ht
  go_wp2_with fail
  refine (forget_walk db o C w1 hd1 hs).mono ?_
  rintro e w2 ⟨rfl, hd2, hm2, ht2⟩
  go_wp2
  go_end0
  have hz := Ht.out.size
  refine ⟨rfl, _, hz, hd2, Hm.out.turn ht2 (fun e => H1.out.ne Hd.out e.symm), hm2, ?_⟩
  exact ((Turn.refl (fun k => k = db ∨ k = fl) w).drew.trans Ht.out (fun k _ e => .inr e)).trans ht2 (fun k _ e => .inl e)
end Go.Proofs.YtelipeoilcepbaaDoor
