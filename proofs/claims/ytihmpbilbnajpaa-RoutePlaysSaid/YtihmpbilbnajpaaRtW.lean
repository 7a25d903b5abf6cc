/-
  Routes: two tables and two of the reference's, beside each other: what their calls make of them. A clone shares its lists with the table that it is of. No conditions.
-/
import Derived.Test.YtihmpbilbnajpaaRtV
namespace Go.Proofs.Ytihmpbilbnajpaa
open Go.RowKit
open Ix
open Rt (R)
set_option linter.unusedVariables false
set_option linter.unusedSimpArgs false
/-- a table: the blocks that its calls write (F), and those of its lists, which nobody writes (L) -/
def Ax (w : World) (t : Nat) (F L : Nat → Prop) (m : Int) (l : List R) : Prop := ∃ mb es, Tb w t mb m es ∧ es.map RtV.plain = l ∧ F = (fun b => b = t ∨ b = mb) ∧ L = LB es
section
variable {w w' : World} {t : Nat} {F L G : Nat → Prop} {m : Int} {l : List R}
theorem Ax.turn (h : Ax w t F L m l) (ht : Turn G w w') (hF : ∀ b, F b → ¬ G b) (hL : ∀ b, L b → ¬ G b) : Ax w' t F L m l := by
  obtain ⟨mb, es, h, rfl, rfl, rfl⟩ := h
  exact ⟨mb, es, h.turn ht (hF t (.inl rfl)) (hF mb (.inr rfl)) hL, rfl, rfl, rfl⟩
theorem Ax.still (h : Ax w t F L m l) (ht : Turn nowhere w w') : Ax w' t F L m l := h.turn ht (fun _ _ e => e) fun _ _ e => e
theorem Ax.lt (h : Ax w t F L m l) {b : Nat} (hb : F b) : b < w.heap.size := by
  obtain ⟨mb, es, h, rfl, rfl, rfl⟩ := h
  rcases hb with rfl | rfl
  · exact h.blk.lt
  · exact h.mp.lt
theorem Ax.llt (h : Ax w t F L m l) {b : Nat} (hb : L b) : b < w.heap.size := by
  obtain ⟨mb, es, h, rfl, rfl, rfl⟩ := h
  exact (h.lne hb).2.2
theorem Ax.srt (h : Ax w t F L m l) : Rt.Srt l ∧ l.length ≤ 32 := by
  obtain ⟨mb, es, h, rfl, rfl, rfl⟩ := h
  exact ⟨h.srt, by rw [List.length_map]; exact h.len⟩
theorem Ax.short (h : Ax w t F L m l) : ∀ x ∈ l, x.2.length ≤ 6 := by
  obtain ⟨mb, es, h, rfl, rfl, rfl⟩ := h
  intro x hx
  obtain ⟨e, he, rfl⟩ := List.mem_map.1 hx
  exact h.short e he
/-- what one writes is no list of the other -/
theorem Ax.cross {t2 : Nat} {F2 L2 : Nat → Prop} {m2 : Int} {l2 : List R} (h : Ax w t F L m l) (h2 : Ax w t2 F2 L2 m2 l2) : ∀ b, L2 b → ¬ F b := by
  obtain ⟨mb, es, h, rfl, rfl, rfl⟩ := h
  obtain ⟨mb2, es2, h2, rfl, rfl, rfl⟩ := h2
  rintro b ⟨e, he, hb⟩ hF
  obtain ⟨cur, hc⟩ := (h2.its e he).2.own_blk hb
  rcases hF with rfl | rfl
  · exact absurd (Blk.ty hc h.blk) (by decide)
  · exact h.mp.ne hc rfl
theorem Ax.add {r : RtV} (h : Ax w t F L m l) (hr : r.ok w) : Calls Try.prog 14 #[.pointer (some ⟨t, 0, none⟩), .agg r.cells.toArray] w fun e w' => e = .returned (.int .i64 (Rt.addE m l r.pre r.to_)) ∧ ∃ L', Ax w' t F L' m (Rt.addL m l r.pre r.to_) ∧ (∀ b, L' b → L b ∨ w.heap.size ≤ b) ∧ Turn F w w' := by
  obtain ⟨mb, es, h, rfl, rfl, rfl⟩ := h
  refine (Add_walk h hr).mono ?_
  rintro e w' ⟨rfl, es', htb, hpl, hlb, ht⟩
  exact ⟨rfl, _, ⟨mb, es', htb, hpl, rfl, rfl⟩, hlb, ht.mono fun b _ e => .inr e⟩
theorem Ax.drop {p : Key} (h : Ax w t F L m l) (hp : p.length ≤ 9223372036854775807) : Calls Try.prog 16 #[.pointer (some ⟨t, 0, none⟩), strV p] w fun e w' => e = .returned (.int .i64 (Rt.dropE l p)) ∧ ∃ L', Ax w' t F L' m (Rt.dropL l p) ∧ (∀ b, L' b → L b ∨ w.heap.size ≤ b) ∧ Turn F w w' := by
  obtain ⟨mb, es, h, rfl, rfl, rfl⟩ := h
  refine (Drop_walk h hp).mono ?_
  rintro e w' ⟨rfl, es', htb, hpl, hlb, ht⟩
  exact ⟨rfl, _, ⟨mb, es', htb, hpl, rfl, rfl⟩, fun b hb => .inl (hlb b hb), ht.mono fun b _ e => .inr e⟩
theorem Ax.clone (h : Ax w t F L m l) : Calls Try.prog 12 #[.pointer (some ⟨t, 0, none⟩)] w fun e w' => ∃ t2 F2, e = .returned (.pointer (some ⟨t2, 0, none⟩)) ∧ Ax w' t2 F2 L m l ∧ (∀ b, F2 b → w.heap.size ≤ b) ∧ Turn nowhere w w' := by
  obtain ⟨mb, es, h, rfl, rfl, rfl⟩ := h
  refine (Clone_walk h).mono ?_
  rintro e w' ⟨t2, mb2, rfl, htb, h1, h2, ht⟩
  exact ⟨t2, _, rfl, ⟨mb2, es, htb, rfl, rfl, rfl⟩, fun b hb => by
    rcases hb with rfl | rfl
    · exact h1
    · exact h2, ht⟩
theorem Ax.find {p : Key} (h : Ax w t F L m l) (hp : p.length ≤ 9223372036854775807) : Calls Try.prog 18 #[.pointer (some ⟨t, 0, none⟩), strV p] w (FindQ w l p) := by
  obtain ⟨mb, es, h, rfl, rfl, rfl⟩ := h
  exact Find_walk h hp
theorem Ax.list (h : Ax w t F L m l) : Calls Try.prog 21 #[.pointer (some ⟨t, 0, none⟩)] w fun e w' => ∃ A n c vs, e = .returned (.slice A n c) ∧ OwnR w' w.heap.size w.heap.size (.slice A n c) vs ∧ vs.map RtV.plain = l ∧ Turn nowhere w w' := by
  obtain ⟨mb, es, h, rfl, rfl, rfl⟩ := h
  exact List_walk h
theorem Ax.new_ok {w : World} {A : Option Addr} {n c : Nat} {us : List RtV} {m : Int} {l : List R} (ha : RtsAt w A n us) (hr : n * 40 ≤ 140737488355328) (hm : 1 ≤ m ∧ m ≤ 6) (h0 : Rt.newE m [] (us.map RtV.plain) = 0) (hl : l = Rt.newL m [] (us.map RtV.plain)) :
    Calls Try.prog 9 #[.slice A n c, .int .i64 m] w fun e w' => ∃ x F L, e = .returned (.tuple #[.pointer (some ⟨x, 0, none⟩), .int .i64 0]) ∧ Ax w' x F L m l ∧ (∀ b, F b ∨ L b → w.heap.size ≤ b) ∧ Turn nowhere w w' := (New_walk ha hr).mono fun e w' h => by
  subst hl
  rcases h with ⟨h, _⟩ | ⟨_, h, _⟩ | ⟨_, _, t, mb, es, rfl, htb, hpl, h3, h4, h5, h6⟩
  · exact absurd hm h
  · exact absurd h0 h
  · exact ⟨t, _, _, rfl, ⟨mb, es, htb, hpl, rfl, rfl⟩, fun b hb => by
      rcases hb with (rfl | rfl) | hb
      · exact h3
      · exact h4
      · exact h5 b hb, h6⟩
end
section
theorem RefT.other {w w' : World} {B y u : Nat} {m m2 : Int} {v v2 : Value} {vs vs2 : List RtV} (h : RefT w B u m2 v2 vs2) (hy : RefT w B y m v vs) (hne : y ≠ u) (ht : Turn (only y) w w') : RefT w' B u m2 v2 vs2 :=
  ⟨h.blk.turn ht fun e => hne e.symm, h.own.only hy.blk (by decide) (by decide) ht⟩
/-- no list of a table is the reference's own block -/
theorem Ax.offy {w : World} {t B y : Nat} {F L : Nat → Prop} {m m2 : Int} {l : List R} {v : Value} {vs : List RtV} (h : Ax w t F L m l) (hy : RefT w B y m2 v vs) : ∀ b, L b → ¬ only y b := by
  obtain ⟨mb, es, h, rfl, rfl, rfl⟩ := h
  rintro b ⟨e, he, hb⟩ e9
  obtain ⟨cur, hc⟩ := (h.its e he).2.own_blk hb
  have e9 : b = y := e9
  subst e9
  exact absurd (Blk.ty hc hy.blk) (by decide)
/-- x and z: tables; y and u: the reference's; P: the blocks of all four -/
structure FourX (w : World) (B : Nat) (m : Int) (x y z u : Nat) (lx ly lz lu : List R) (P F L F2 L2 : Nat → Prop) (v : Value) (vs : List RtV) (v2 : Value) (vs2 : List RtV) : Prop where
  hx : Ax w x F L m lx
  hz : Ax w z F2 L2 m lz
  hy : RefT w B y m v vs
  ey : vs.map RtV.plain = ly
  hu : RefT w B u m v2 vs2
  eu : vs2.map RtV.plain = lu
  ne : y ≠ u
  xz : ∀ b, F b → ¬ F2 b
  xy : ∀ b, F b → ¬ RefG y v vs b
  xu : ∀ b, F b → ¬ RefG u v2 vs2 b
  zy : ∀ b, F2 b → ¬ RefG y v vs b
  zu : ∀ b, F2 b → ¬ RefG u v2 vs2 b
  px : ∀ b, F b → P b
  lx : ∀ b, L b → P b
  pz : ∀ b, F2 b → P b
  lz : ∀ b, L2 b → P b
  py : ∀ b, RefG y v vs b → P b
  pu : ∀ b, RefG u v2 vs2 b → P b
  lt : ∀ b, P b → b < w.heap.size
  sy : Rt.Srt ly ∧ ly.length ≤ 32
  su : Rt.Srt lu ∧ lu.length ≤ 32
  hB : B ≤ w.heap.size
def Four (w : World) (B : Nat) (m : Int) (x y z u : Nat) (lx ly lz lu : List R) (P : Nat → Prop) : Prop := ∃ F L F2 L2 v vs v2 vs2, FourX w B m x y z u lx ly lz lu P F L F2 L2 v vs v2 vs2
/-- what a call makes: its blocks are old ones of theirs, or new -/
def FourTo (w : World) (B : Nat) (m : Int) (x y z u : Nat) (lx ly lz lu : List R) (P : Nat → Prop) (w' : World) : Prop :=
  ∃ P', Four w' B m x y z u lx ly lz lu P' ∧ (∀ b, P' b → P b ∨ w.heap.size ≤ b) ∧ Turn P w w'
variable {w : World} {B : Nat} {m : Int} {x y z u : Nat} {lx ly lz lu : List R} {P : Nat → Prop}
theorem Four.off {w' : World} {G : Nat → Prop} (h : Four w B m x y z u lx ly lz lu P) (ht : Turn G w w') (hn : ∀ b, P b → ¬ G b) : Four w' B m x y z u lx ly lz lu P := by
  obtain ⟨F, L, F2, L2, v, vs, v2, vs2, h⟩ := h
  exact ⟨F, L, F2, L2, v, vs, v2, vs2, { h with
    hx := h.hx.turn ht (fun b hb => hn b (h.px b hb)) fun b hb => hn b (h.lx b hb)
    hz := h.hz.turn ht (fun b hb => hn b (h.pz b hb)) fun b hb => hn b (h.lz b hb)
    hy := h.hy.off ht fun b hb => hn b (h.py b hb)
    hu := h.hu.off ht fun b hb => hn b (h.pu b hb)
    lt := fun b hb => Nat.lt_of_lt_of_le (h.lt b hb) ht.size
    hB := Nat.le_trans h.hB ht.size }⟩
theorem Four.still {w' : World} (h : Four w B m x y z u lx ly lz lu P) (ht : Turn nowhere w w') : Four w' B m x y z u lx ly lz lu P := h.off ht fun _ _ e => e
theorem Four.lt (h : Four w B m x y z u lx ly lz lu P) {b : Nat} (hb : P b) : b < w.heap.size := by
  obtain ⟨F, L, F2, L2, v, vs, v2, vs2, h⟩ := h
  exact h.lt b hb
theorem Four.atx (h : Four w B m x y z u lx ly lz lu P) : ∃ F L, Ax w x F L m lx := by
  obtain ⟨F, L, F2, L2, v, vs, v2, vs2, h⟩ := h
  exact ⟨F, L, h.hx⟩
theorem Four.atz (h : Four w B m x y z u lx ly lz lu P) : ∃ F L, Ax w z F L m lz := by
  obtain ⟨F, L, F2, L2, v, vs, v2, vs2, h⟩ := h
  exact ⟨F2, L2, h.hz⟩
theorem Four.refy (h : Four w B m x y z u lx ly lz lu P) : ∃ v vs, RefT w B y m v vs ∧ vs.map RtV.plain = ly ∧ Rt.Srt ly ∧ ly.length ≤ 32 ∧ B ≤ w.heap.size := by
  obtain ⟨F, L, F2, L2, v, vs, v2, vs2, h⟩ := h
  exact ⟨v, vs, h.hy, h.ey, h.sy.1, h.sy.2, h.hB⟩
theorem Four.refu (h : Four w B m x y z u lx ly lz lu P) : ∃ v vs, RefT w B u m v vs ∧ vs.map RtV.plain = lu ∧ Rt.Srt lu ∧ lu.length ≤ 32 ∧ B ≤ w.heap.size := by
  obtain ⟨F, L, F2, L2, v, vs, v2, vs2, h⟩ := h
  exact ⟨v2, vs2, h.hu, h.eu, h.su.1, h.su.2, h.hB⟩
/-- the table's own call, x turned -/
theorem FourX.onx {w' : World} {F L F2 L2 L' : Nat → Prop} {v v2 : Value} {vs vs2 : List RtV} {l : List R} (h : FourX w B m x y z u lx ly lz lu P F L F2 L2 v vs v2 vs2) (hat : Ax w' x F L' m l) (hL : ∀ b, L' b → L b ∨ w.heap.size ≤ b) (ht : Turn F w w') : FourTo w B m x y z u l ly lz lu P w' := by
  have old : ∀ b, P b → b < w.heap.size := h.lt
  refine ⟨fun b => P b ∨ L' b, ⟨F, L', F2, L2, v, vs, v2, vs2, { h with
    hx := hat
    hz := h.hz.turn ht (fun b hb e => h.xz b e hb) (h.hx.cross h.hz)
    hy := h.hy.off ht fun b hb e => h.xy b e hb
    hu := h.hu.off ht fun b hb e => h.xu b e hb
    px := fun b hb => .inl (h.px b hb)
    lx := fun b hb => .inr hb
    pz := fun b hb => .inl (h.pz b hb)
    lz := fun b hb => .inl (h.lz b hb)
    py := fun b hb => .inl (h.py b hb)
    pu := fun b hb => .inl (h.pu b hb)
    lt := fun b hb => hb.elim (fun g => Nat.lt_of_lt_of_le (old b g) ht.size) fun g => hat.llt g
    hB := Nat.le_trans h.hB ht.size }⟩, fun b hb => hb.elim .inl fun g => (hL b g).imp (h.lx b) fun g => g, ht.mono fun b _ hb => h.px b hb⟩
theorem Four.add {r : RtV} (h : Four w B m x y z u lx ly lz lu P) (hr : r.ok w) : Calls Try.prog 14 #[.pointer (some ⟨x, 0, none⟩), .agg r.cells.toArray] w fun e w' =>
    e = .returned (.int .i64 (Rt.addE m lx r.pre r.to_)) ∧ FourTo w B m x y z u (Rt.addL m lx r.pre r.to_) ly lz lu P w' := by
  obtain ⟨F, L, F2, L2, v, vs, v2, vs2, h⟩ := h
  refine (h.hx.add hr).mono ?_
  rintro e w' ⟨rfl, F', h1, h2, h3⟩
  exact ⟨rfl, h.onx h1 h2 h3⟩
theorem Four.drop {p : Key} (h : Four w B m x y z u lx ly lz lu P) (hp : p.length ≤ 9223372036854775807) : Calls Try.prog 16 #[.pointer (some ⟨x, 0, none⟩), strV p] w fun e w' =>
    e = .returned (.int .i64 (Rt.dropE lx p)) ∧ FourTo w B m x y z u (Rt.dropL lx p) ly lz lu P w' := by
  obtain ⟨F, L, F2, L2, v, vs, v2, vs2, h⟩ := h
  refine (h.hx.drop hp).mono ?_
  rintro e w' ⟨rfl, F', h1, h2, h3⟩
  exact ⟨rfl, h.onx h1 h2 h3⟩
/-- a clone takes x's place, and x that of z -/
theorem Four.clone (h : Four w B m x y z u lx ly lz lu P) : Calls Try.prog 12 #[.pointer (some ⟨x, 0, none⟩)] w fun e w' =>
    ∃ x', e = .returned (.pointer (some ⟨x', 0, none⟩)) ∧ FourTo w B m x' y x u lx ly lx lu P w' := by
  obtain ⟨F, L, F2, L2, v, vs, v2, vs2, h⟩ := h
  refine h.hx.clone.mono ?_
  rintro e w' ⟨x', F', rfl, h1, h2, h3⟩
  have old : ∀ b, P b → b < w.heap.size := h.lt
  exact ⟨x', rfl, fun b => P b ∨ F' b, ⟨F', L, F, L, v, vs, v2, vs2, {
    hx := h1
    hz := h.hx.still h3
    hy := h.hy.still h3
    ey := h.ey
    hu := ⟨h.hu.blk.turn h3 fun e => e, h.hu.own.still h3⟩
    eu := h.eu
    ne := h.ne
    xz := fun b hb e => by have := old b (h.px b e); have := h2 b hb; omega
    xy := fun b hb e => by have := old b (h.py b e); have := h2 b hb; omega
    xu := fun b hb e => by have := old b (h.pu b e); have := h2 b hb; omega
    zy := h.xy
    zu := h.xu
    px := fun b hb => .inr hb
    lx := fun b hb => .inl (h.lx b hb)
    pz := fun b hb => .inl (h.px b hb)
    lz := fun b hb => .inl (h.lx b hb)
    py := fun b hb => .inl (h.py b hb)
    pu := fun b hb => .inl (h.pu b hb)
    lt := fun b hb => hb.elim (fun g => Nat.lt_of_lt_of_le (old b g) h3.size) fun g => h1.lt g
    sy := h.sy
    su := h.su
    hB := Nat.le_trans h.hB h3.size }⟩, fun b hb => hb.imp (fun g => g) (h2 b), h3.mono fun b _ hb => hb.elim⟩
/-- the reference's own call, y turned -/
theorem FourX.ony {w' : World} {F L F2 L2 : Nat → Prop} {v v2 : Value} {vs vs2 : List RtV} {l : List R} (h : FourX w B m x y z u lx ly lz lu P F L F2 L2 v vs v2 vs2) (hto : RefTo w B y m v vs l w') (hs : Rt.Srt l ∧ l.length ≤ 32) : FourTo w B m x y z u lx l lz lu P w' := by
  obtain ⟨v', vs', h1, h2, h3, h4⟩ := hto
  have old : ∀ b, P b → b < w.heap.size := h.lt
  have hF : ∀ b, F b → ¬ only y b := fun b hb e => h.xy b hb (.inl e)
  have hF2 : ∀ b, F2 b → ¬ only y b := fun b hb e => h.zy b hb (.inl e)
  refine ⟨fun b => P b ∨ RefG y v' vs' b, ⟨F, L, F2, L2, v', vs', v2, vs2, { h with
    hx := h.hx.turn h3 hF (h.hx.offy h.hy)
    hz := h.hz.turn h3 hF2 (h.hz.offy h.hy)
    hy := h1
    ey := h2
    hu := h.hu.other h.hy h.ne h3
    xy := fun b hb e => (h4 b e).elim (fun g => h.xy b hb g) fun g => by have := old b (h.px b hb); omega
    zy := fun b hb e => (h4 b e).elim (fun g => h.zy b hb g) fun g => by have := old b (h.pz b hb); omega
    px := fun b hb => .inl (h.px b hb)
    lx := fun b hb => .inl (h.lx b hb)
    pz := fun b hb => .inl (h.pz b hb)
    lz := fun b hb => .inl (h.lz b hb)
    py := fun b hb => .inr hb
    pu := fun b hb => .inl (h.pu b hb)
    lt := fun b hb => hb.elim (fun g => Nat.lt_of_lt_of_le (old b g) h3.size) fun g => (h1.low g).2
    sy := hs
    hB := Nat.le_trans h.hB h3.size }⟩, fun b hb => hb.elim .inl fun g => (h4 b g).imp (h.py b) fun g => g, h3.mono fun b _ hb => h.py b (.inl hb)⟩
theorem Four.radd {r : RtV} (h : Four w B m x y z u lx ly lz lu P) (hr : r.ok w) : Calls Try.prog 15 #[.pointer (some ⟨y, 0, none⟩), .agg r.cells.toArray] w fun e w' =>
    e = .returned (.int .i64 (Rt.addE m ly r.pre r.to_)) ∧ FourTo w B m x y z u lx (Rt.addL m ly r.pre r.to_) lz lu P w' := by
  obtain ⟨F, L, F2, L2, v, vs, v2, vs2, h⟩ := h
  obtain rfl := h.ey
  refine (rAdd_walk h.hy h.hB h.sy.1 (by have := h.sy.2; rwa [List.length_map] at this) hr).mono ?_
  rintro e w' ⟨rfl, hto⟩
  exact ⟨rfl, h.ony hto ⟨Rt.addL_srt h.sy.1, Rt.addL_len h.sy.2⟩⟩
theorem Four.rdrop {p : Key} (h : Four w B m x y z u lx ly lz lu P) : Calls Try.prog 17 #[.pointer (some ⟨y, 0, none⟩), strV p] w fun e w' =>
    e = .returned (.int .i64 (Rt.dropE ly p)) ∧ FourTo w B m x y z u lx (Rt.dropL ly p) lz lu P w' := by
  obtain ⟨F, L, F2, L2, v, vs, v2, vs2, h⟩ := h
  obtain rfl := h.ey
  refine (rDrop_walk h.hy h.hB h.sy.1 (by have := h.sy.2; rwa [List.length_map] at this)).mono ?_
  rintro e w' ⟨rfl, hto⟩
  exact ⟨rfl, h.ony hto ⟨Rt.drop_srt h.sy.1 p, Nat.le_trans (List.length_filter_le _ _) h.sy.2⟩⟩
theorem Four.rclone (h : Four w B m x y z u lx ly lz lu P) : Calls Try.prog 13 #[.pointer (some ⟨y, 0, none⟩)] w fun e w' =>
    ∃ y', e = .returned (.pointer (some ⟨y', 0, none⟩)) ∧ FourTo w B m x y' z y lx ly lz ly P w' := by
  obtain ⟨F, L, F2, L2, v, vs, v2, vs2, h⟩ := h
  have old : ∀ b, P b → b < w.heap.size := h.lt
  refine (rClone_walk h.hy h.hB (by have := h.sy.2; rw [← h.ey, List.length_map] at this; exact this)).mono ?_
  rintro e w' ⟨y', v', rfl, h1, h3, h2, h4⟩
  have off : ∀ (G : Nat → Prop), (∀ b, G b → P b) → (∀ b, G b → ¬ RefG y v vs b) → ∀ b, G b → ¬ RefG y' v' vs b := fun G g1 g2 b hb e => (h4 b e).elim (g2 b hb) fun g => by have := old b (g1 b hb); omega
  exact ⟨y', rfl, fun b => P b ∨ RefG y' v' vs b, ⟨F, L, F2, L2, v', vs, v, vs, {
    hx := h.hx.still h3
    hz := h.hz.still h3
    hy := h2
    ey := h.ey
    hu := ⟨h.hy.blk.turn h3 fun e => e, h.hy.own.still h3⟩
    eu := h.ey
    ne := fun e => by have := old y (h.py y (.inl rfl)); omega
    xz := h.xz
    xy := off F h.px h.xy
    xu := h.xy
    zy := off F2 h.pz h.zy
    zu := h.zy
    px := fun b hb => .inl (h.px b hb)
    lx := fun b hb => .inl (h.lx b hb)
    pz := fun b hb => .inl (h.pz b hb)
    lz := fun b hb => .inl (h.lz b hb)
    py := fun b hb => .inr hb
    pu := fun b hb => .inl (h.py b hb)
    lt := fun b hb => hb.elim (fun g => Nat.lt_of_lt_of_le (old b g) h3.size) fun g => (h2.low g).2
    sy := h.sy
    su := h.sy
    hB := Nat.le_trans h.hB h3.size }⟩, fun b hb => hb.elim .inl fun g => (h4 b g).imp (h.py b) fun g => g, h3.mono fun b _ hb => hb.elim⟩
/-- the four for the first time: z is a clone of x, u one of y -/
theorem Four.init {w' w'' : World} {F L F2 : Nat → Prop} {v v2 : Value} {vs : List RtV} {l : List R} (hx : Ax w x F L m l) (hy : RefT w B y m v vs) (ey : vs.map RtV.plain = l) (hxy : ∀ b, F b → ¬ RefG y v vs b) (hB : B ≤ w.heap.size)
    (hz : Ax w' z F2 L m l) (hF2 : ∀ b, F2 b → w.heap.size ≤ b) (ht : Turn nowhere w w') (hyu : u ≠ y) (hu : RefT w'' B u m v2 vs) (hG : ∀ b, RefG u v2 vs b → RefG y v vs b ∨ w'.heap.size ≤ b) (ht2 : Turn nowhere w' w'') :
    Four w'' B m x y z u l l l l (fun b => F b ∨ L b ∨ F2 b ∨ RefG y v vs b ∨ RefG u v2 vs b) := by
  have hT := ht.trans ht2 fun _ _ e => e
  have lx : ∀ b, F b → b < w.heap.size := fun b hb => hx.lt hb
  have lz : ∀ b, F2 b → b < w'.heap.size := fun b hb => hz.lt hb
  have ly : ∀ b, RefG y v vs b → b < w.heap.size := fun b hb => (hy.low hb).2
  have s1 := ht.size
  have s2 := ht2.size
  exact ⟨F, L, F2, L, v, vs, v2, vs, {
    hx := hx.still hT
    hz := hz.still ht2
    hy := hy.still hT
    ey := ey
    hu := hu
    eu := ey
    ne := fun e => hyu e.symm
    xz := fun b hb e => by have := lx b hb; have := hF2 b e; omega
    xy := hxy
    xu := fun b hb e => (hG b e).elim (hxy b hb) fun g => by have := lx b hb; omega
    zy := fun b hb e => by have := ly b e; have := hF2 b hb; omega
    zu := fun b hb e => (hG b e).elim (fun g => by have := ly b g; have := hF2 b hb; omega) fun g => by have := lz b hb; omega
    px := fun b hb => .inl hb
    lx := fun b hb => .inr (.inl hb)
    pz := fun b hb => .inr (.inr (.inl hb))
    lz := fun b hb => .inr (.inl hb)
    py := fun b hb => .inr (.inr (.inr (.inl hb)))
    pu := fun b hb => .inr (.inr (.inr (.inr hb)))
    lt := fun b hb => by
      rcases hb with h | h | h | h | h
      · have := lx b h; omega
      · have := hx.llt h; omega
      · have := lz b h; omega
      · have := ly b h; omega
      · exact (hu.low h).2
    sy := hx.srt
    su := hx.srt
    hB := by omega }⟩
/-- a call of the law, in memory: its kind, its route, its card -/
structure OpR where
  kind : Int
  r : RtV
  pan : Key
def OpR.cells (o : OpR) : List Value := .int .i64 o.kind :: (o.r.cells ++ [strV o.pan])
structure OpR.ok (w : World) (o : OpR) : Prop where
  k : -9223372036854775808 ≤ o.kind ∧ o.kind ≤ 9223372036854775807
  r : o.r.ok w
  p : o.pan.length ≤ 9223372036854775807
theorem OpR.ok.still {w w' : World} {o : OpR} (h : o.ok w) (ht : Turn nowhere w w') : o.ok w' := ⟨h.k, h.r.still ht, h.p⟩
def OpsAt (w : World) (A : Option Addr) (n : Nat) (os : List OpR) : Prop := Rws w 4 A n (os.map OpR.cells) ∧ ∀ o ∈ os, o.ok w
theorem OpsAt.still {w w' : World} {A : Option Addr} {n : Nat} {os : List OpR} (h : OpsAt w A n os) (ht : Turn nowhere w w') : OpsAt w' A n os := ⟨h.1.still ht, fun o ho => (h.2 o ho).still ht⟩
theorem OpsAt.len {w : World} {A : Option Addr} {n : Nat} {os : List OpR} (h : OpsAt w A n os) : n = os.length := by
  have := h.1.1
  rw [List.length_map] at this
  omega
theorem size_opr : (Try.prog.info? 40).map (·.size) = some 4 := by kernel_rfl
theorem OpsAt.rng {w : World} {b off n : Nat} {os : List OpR} (h : OpsAt w (some ⟨b, off, none⟩) n os) {i : Nat} {o : OpR} (ho : os[i]? = some o) : w.rangeAt b (off + i * 4) o.cells := Rws.el h.1 (by rw [List.getElem?_map, ho]; rfl)
end
end Go.Proofs.Ytihmpbilbnajpaa
