/-
  The reference's plant: Fuse, Write, Read, Len, whatever is asked. No conditions.
-/
import Derived.Test.YteedjfgandgbkaaPpC
namespace Go.Proofs.Yteedjfgandgbkaa
open Go.RowKit Go.Maps
set_option linter.unusedVariables false
set_option linter.unusedSimpArgs false
section
variable {w w' : World} {q : Nat} {G Z H : Nat → Prop} {a : RP} {mv hv wv : Value} {zs : List Int} {rows : List (Value × List Value)} {ws : List (WtR × Value)}
theorem Blk.notOnly {g : Nat} {t t' : TypeId} {cs cs' : Array Value} (h : Blk w g t cs) (hq : Blk w q t' cs') (ht : t ≠ t') : ¬ only q g := fun e => by
  have e : g = q := e
  subst e
  exact ht (blk_ty h hq)
theorem Frz.notOnly {b : Nat} {cs : Array Value} (h : Frz w b) (hq : Blk w q 49 cs) : ¬ only q b := fun e => by
  have e : b = q := e
  subst e
  obtain ⟨t, c, h1, h2⟩ := h
  have e := blk_ty h1 hq
  subst e
  revert h2
  decide
/-- the plant's own block is turned -/
theorem RAtX.top (h : RAtX w q Z a mv hv wv zs rows ws) {off' burns' : Bool} {left' done' : Int} (hb : Blk w' q 49 (refCells mv hv wv off' burns' left' done')) (ht : Turn (only q) w w') :
    RAtX w' q Z { a with off := off', burns := burns', left := left', done := done' } mv hv wv zs rows ws := { h with
  blk := hb
  most := h.most.turn ht fun b e => by
    obtain ⟨cur, hc⟩ := h.most.own_blk e
    exact hc.notOnly h.blk (by decide)
  has := h.has.turn ht fun b e => by
    obtain ⟨cur, hc⟩ := h.has.own_blk e
    exact hc.notOnly h.blk (by decide)
  row := fun i r e hr he => by
    obtain ⟨h1, h2, h3⟩ := h.row i r e hr he
    exact ⟨h1, h2.turn ht fun b e => by
      obtain ⟨cur, hc⟩ := h2.own_blk e
      exact hc.notOnly h.blk (by decide), fun k u hu => (h3 k u hu).turn ht fun b _ hf => hf.notOnly h.blk⟩
  wts := h.wts.turn ht fun b e => by
    obtain ⟨cur, hc⟩ := h.wts.own_blk e
    exact hc.notOnly h.blk (by decide)
  wsec := fun x hx => (h.wsec x hx).turn ht fun b _ hf => hf.notOnly h.blk
  zlt := fun b hb => Nat.lt_of_lt_of_le (h.zlt b hb) ht.size }
theorem RAtX.at_ (h : RAtX w q Z a mv hv wv zs rows ws) : RAt w q (RG q rows wv) Z a := ⟨mv, hv, wv, zs, rows, ws, h, rfl⟩
theorem only_rg (rows : List (Value × List Value)) (wv : Value) (ht : Turn (only q) w w') : Turn (RG q rows wv) w w' := ht.mono fun b _ e => .inl e
/-- what a call makes of it -/
def RTo (w : World) (q : Nat) (G Z : Nat → Prop) (a' : RP) (w' : World) : Prop := ∃ G' Z', RAt w' q G' Z' a' ∧ (∀ b, G' b → G b ∨ w.heap.size ≤ b) ∧ (∀ b, Z' b → Z b ∨ w.heap.size ≤ b) ∧ Turn G w w'
theorem RAt.to_still (h : RAt w q G Z a) (ht : Turn nowhere w w') : RTo w q G Z a w' := ⟨G, Z, h.still ht, fun _ h => .inl h, fun _ h => .inl h, ht.mono fun _ _ e => e.elim⟩
theorem RAt.fuse (h : RAt w q G Z a) (n : Int) : Calls Try.prog 17 #[.pointer (some ⟨q, 0, none⟩), .int .i64 n] w fun e w' => e = .returned (.tuple #[]) ∧ RTo w q G Z (a.fuse n) w' := by
  obtain ⟨mv, hv, wv, zs, rows, ws, h, rfl⟩ := h
  unfold RP.fuse
  have hb := h.blk
  cases ho : a.off with
  | true =>
    rw [ho] at hb
    refine (rfuse_off hb).mono ?_
    rintro e w' ⟨rfl, rfl⟩
    exact ⟨rfl, h.at_.to_still (Turn.refl _ _)⟩
  | false =>
    rw [ho] at hb
    refine (rfuse_on hb).mono ?_
    rintro e w' ⟨rfl, hb', ht⟩
    have := h.top hb' ht
    exact ⟨rfl, _, _, this.at_, fun _ h => .inl h, fun _ h => .inl h, only_rg rows wv ht⟩
/-- a place that there is -/
def RP.ok (a : RP) (i : Nat) (e : Nat × (Int → Option Sec)) (dev place : Int) : Prop := dev = (i : Int) ∧ a.ds[i]? = some e ∧ 0 ≤ place ∧ place < (e.1 : Int)
def RP.no (a : RP) (dev place : Int) : Prop := ∀ i e, ¬ a.ok i e dev place
theorem RAtX.zget (h : RAtX w q Z a mv hv wv zs rows ws) {i : Nat} {e : Nat × (Int → Option Sec)} (he : a.ds[i]? = some e) : zs.getD i 0 = (e.1 : Int) := by
  rw [List.getD_eq_getElem?_getD, h.zat i e he]
  rfl
/-- why a place is none -/
theorem RP.no_why {a : RP} {dev place : Int} (h : a.no dev place) : ¬ (0 ≤ dev ∧ dev < (a.ds.length : Int)) ∨ ∃ i e, dev = ((i : Nat) : Int) ∧ a.ds[i]? = some e ∧ (place < 0 ∨ (0 ≤ place ∧ (e.1 : Int) ≤ place)) := by
  by_cases hd : 0 ≤ dev ∧ dev < (a.ds.length : Int)
  · obtain ⟨i, rfl⟩ : ∃ i : Nat, dev = (i : Int) := ⟨dev.toNat, by omega⟩
    have he : a.ds[i]? = some (a.ds[i]'(by omega)) := List.getElem?_eq_getElem _
    refine .inr ⟨i, _, rfl, he, ?_⟩
    have := h i (a.ds[i]'(by omega))
    unfold RP.ok at this
    by_cases h0 : place < 0
    · exact .inl h0
    · refine .inr ⟨by omega, ?_⟩
      rcases Int.lt_or_le place (a.ds[i]'(by omega)).1 with h1 | h1
      · exact absurd ⟨rfl, he, by omega, h1⟩ this
      · exact h1
  · exact .inl hd
theorem RAt.read_no (h : RAt w q G Z a) {dev place : Int} (hno : a.off = true ∨ a.no dev place) : Calls Try.prog 38 #[.pointer (some ⟨q, 0, none⟩), .int .i64 dev, .int .i64 place] w fun e w' => e = .returned (.tuple #[.slice none 0 0, .int .i64 (if a.off then 2 else 31)]) ∧ w' = w := by
  obtain ⟨mv, hv, wv, zs, rows, ws, h, rfl⟩ := h
  have hb := h.blk
  cases ho : a.off with
  | true =>
    rw [ho] at hb
    exact rread_off hb
  | false =>
    rw [ho] at hb
    have hn : a.no dev place := hno.resolve_left (by rw [ho]; decide)
    obtain ⟨A, c, rfl, hz⟩ := h.mform
    rcases RP.no_why hn with hd | ⟨i, e, rfl, he, hp⟩
    · exact rread_dev hb hd
    · have hi := (List.getElem?_eq_some_iff.1 he).1
      rcases hp with hp | ⟨h0, hp⟩
      · exact rread_low hb hi hp
      · exact rread_high hb hz hi h0 (by rw [h.zget he]; exact hp)
theorem RAt.read_at (h : RAt w q G Z a) {i k : Nat} {e : Nat × (Int → Option Sec)} (ho : a.off = false) (he : a.ds[i]? = some e) (hk : k < e.1) (hR : a.R.length < 1099511627776) : Calls Try.prog 38 #[.pointer (some ⟨q, 0, none⟩), .int .i64 (i : Int), .int .i64 (k : Int)] w fun e' w' => ∃ g c, e' = .returned (.tuple #[.slice (some ⟨g, 0, none⟩) 64 c, .int .i64 0]) ∧ Own w' 0 5 (.slice (some ⟨g, 0, none⟩) 64 c) (a.read e i (k : Int)).1 ∧ w.heap.size ≤ g ∧ Turn nowhere w w' := by
  obtain ⟨mv, hv, wv, zs, rows, ws, h, rfl⟩ := h
  have hb := h.blk
  rw [ho] at hb
  obtain ⟨A, c, rfl, hz⟩ := h.mform
  exact rread_ok hb hz h.hasR h.waitsR (List.getElem?_eq_some_iff.1 he).1 he hk (h.zget he) hR
theorem RAt.len_no (h : RAt w q G Z a) {dev : Int} (hd : ¬ (0 ≤ dev ∧ dev < (a.ds.length : Int))) : Calls Try.prog 40 #[.pointer (some ⟨q, 0, none⟩), .int .i64 dev] w fun e w' => e = .returned (.tuple #[.int .i64 0, .int .i64 31]) ∧ w = w' := by
  obtain ⟨mv, hv, wv, zs, rows, ws, h, rfl⟩ := h
  obtain ⟨A, c, rfl, hz⟩ := h.mform
  exact rlen_bad h.blk dev hd
theorem RAt.len_at (h : RAt w q G Z a) {i : Nat} {e : Nat × (Int → Option Sec)} (he : a.ds[i]? = some e) : Calls Try.prog 40 #[.pointer (some ⟨q, 0, none⟩), .int .i64 (i : Int)] w fun e' w' => e' = .returned (.tuple #[.int .i64 (e.1 : Int), .int .i64 0]) ∧ w = w' := by
  obtain ⟨mv, hv, wv, zs, rows, ws, h, rfl⟩ := h
  obtain ⟨A, c, rfl, hz⟩ := h.mform
  rw [← h.zget he]
  exact rlen_good h.blk hz i (List.getElem?_eq_some_iff.1 he).1
theorem RAt.write_no (h : RAt w q G Z a) {dev place : Int} (hno : a.off = true ∨ a.no dev place) {B : Option Addr} {n c : Nat} : Calls Try.prog 12 #[.pointer (some ⟨q, 0, none⟩), .int .i64 dev, .int .i64 place, .slice B n c] w fun e w' => e = .returned (.int .i64 (if a.off then 2 else 31)) ∧ w' = w := by
  obtain ⟨mv, hv, wv, zs, rows, ws, h, rfl⟩ := h
  have hb := h.blk
  cases ho : a.off with
  | true =>
    rw [ho] at hb
    exact rwrite_off hb
  | false =>
    rw [ho] at hb
    have hn : a.no dev place := hno.resolve_left (by rw [ho]; decide)
    obtain ⟨A, c, rfl, hz⟩ := h.mform
    rcases RP.no_why hn with hd | ⟨i, e, rfl, he, hp⟩
    · exact rwrite_dev hb hd
    · have hi := (List.getElem?_eq_some_iff.1 he).1
      rcases hp with hp | ⟨h0, hp⟩
      · exact rwrite_low hb hi hp
      · exact rwrite_high hb hz hi h0 (by rw [h.zget he]; exact hp)
theorem RAt.write_len (h : RAt w q G Z a) {i k : Nat} {e : Nat × (Int → Option Sec)} (ho : a.off = false) (he : a.ds[i]? = some e) (hk : k < e.1) {B : Option Addr} {n c : Nat} (hn : n ≠ 64) : Calls Try.prog 12 #[.pointer (some ⟨q, 0, none⟩), .int .i64 (i : Int), .int .i64 (k : Int), .slice B n c] w fun e w' => e = .returned (.int .i64 32) ∧ w' = w := by
  obtain ⟨mv, hv, wv, zs, rows, ws, h, rfl⟩ := h
  have hb := h.blk
  rw [ho] at hb
  obtain ⟨A, c, rfl, hz⟩ := h.mform
  exact rwrite_len hb hz (List.getElem?_eq_some_iff.1 he).1 (by omega) (by rw [h.zget he]; omega) hn
theorem RAt.write_end (h : RAt w q G Z a) {i k : Nat} {e : Nat × (Int → Option Sec)} (ho : a.off = false) (he : a.ds[i]? = some e) (hk : k < e.1) (hb1 : a.burns = true) (hl : a.left = 0) {B : Option Addr} {c : Nat} : Calls Try.prog 12 #[.pointer (some ⟨q, 0, none⟩), .int .i64 (i : Int), .int .i64 (k : Int), .slice B 64 c] w fun e w' => e = .returned (.int .i64 2) ∧ RTo w q G Z a.cut w' := by
  obtain ⟨mv, hv, wv, zs, rows, ws, h, rfl⟩ := h
  have hb := h.blk
  rw [ho, hb1, hl] at hb
  obtain ⟨A, c, rfl, hz⟩ := h.mform
  refine (rwrite_end hb hz (List.getElem?_eq_some_iff.1 he).1 (by omega) (by rw [h.zget he]; omega)).mono ?_
  rintro e w' ⟨rfl, hb', ht⟩
  have := h.top hb' ht
  exact ⟨rfl, _, _, (show RAtX w' q Z a.cut _ hv wv zs rows ws from by unfold RP.cut; rw [← hl] at this; exact this).at_, fun _ h => .inl h, fun _ h => .inl h, only_rg rows wv ht⟩
/-- a step that is done, as the call wants it -/
theorem RAtX.step (h : RAtX w q Z a mv hv wv zs rows ws) (ho : a.off = false) (h0 : a.burns = true → 0 < a.left ∧ a.left ≤ 9223372036854775807) (hd : 0 ≤ a.done ∧ a.done ≤ 4611686018427387904) :
    Calls Try.prog 30 #[.pointer (some ⟨q, 0, none⟩)] w fun e w' => e = .returned (.bool true) ∧ Blk w' q 49 (refCells mv hv wv false a.burns (if a.burns then a.left - 1 else a.left) (a.done + 1)) ∧ Turn (only q) w w' := by
  have hb := h.blk
  rw [ho] at hb
  cases hbn : a.burns with
  | true =>
    rw [hbn] at hb
    obtain ⟨h1, h2⟩ := h0 hbn
    rw [if_pos rfl]
    exact rstep_burn hb h1 h2 hd.1 hd.2
  | false =>
    rw [hbn] at hb
    rw [if_neg (by decide)]
    exact rstep_free hb hd.1 hd.2
theorem RAt.write_at (h : RAt w q G Z a) {i k : Nat} {e : Nat × (Int → Option Sec)} (ho : a.off = false) (he : a.ds[i]? = some e) (hk : k < e.1) (h0 : a.burns = true → 0 < a.left ∧ a.left ≤ 9223372036854775807) (hd : 0 ≤ a.done ∧ a.done ≤ 4611686018427387904) (hR : a.R.length < 1099511627776) {B : Option Addr} {c : Nat} {s : Sec} (hbs : Bs w B 64 s.1) (hqb : ∀ b off s', B = some ⟨b, off, s'⟩ → b ≠ q) :
    Calls Try.prog 12 #[.pointer (some ⟨q, 0, none⟩), .int .i64 (i : Int), .int .i64 (k : Int), .slice B 64 c] w fun e w' => e = .returned (.int .i64 0) ∧ RTo w q G Z (a.put i (k : Int) s) w' := by
  obtain ⟨mv, hv, wv, zs, rows, ws, h, rfl⟩ := h
  have hst := h.step ho h0 hd
  have hb := h.blk
  rw [ho] at hb
  obtain ⟨A, cm, rfl, hz⟩ := h.mform
  have hwl : ws.length = a.R.length := by rw [← h.wr, List.length_map]
  refine (rwrite_at hb hz h.wts (List.getElem?_eq_some_iff.1 he).1 (h.zget he) (by omega) (by rw [List.length_map, hwl]; exact hR) hbs hst hqb).mono ?_
  rintro e' w' ⟨v', u, rfl, hb', hw', hx, ht, hv'⟩
  have hq : ¬ (fun j => j = q ∨ some j = wv.ownBlock) q → False := fun h => h (.inl rfl)
  have far : ∀ {b : Nat} {t : TypeId} {cs : Array Value}, Blk w b t cs → t ≠ 49 → t ≠ 72 → ¬ (b = q ∨ some b = wv.ownBlock) := by
    intro b t cs hbl h1 h2 hc
    rcases hc with rfl | hc
    · exact h1 (blk_ty hbl h.blk)
    · obtain ⟨cur, h3⟩ := h.wts.own_blk hc.symm
      exact h2 (blk_ty hbl h3)
  have ffar : ∀ b, Frz w b → ¬ (b = q ∨ some b = wv.ownBlock) := by
    rintro b ⟨t, cs, h1, h2⟩
    refine far h1 ?_ ?_ <;> (rcases h2 with rfl | rfl | rfl <;> decide)
  refine ⟨rfl, RG q rows v', fun b => Z b ∨ (w.heap.size ≤ b ∧ b < w'.heap.size), ⟨_, hv, v', zs, rows, ws ++ [((i, (k : Int), s), u)], {
    blk := by
      show Blk w' q _ (refCells _ hv v' a.off a.burns _ _)
      rw [ho]
      exact hb'
    most := h.most.turn ht fun b e => by
      obtain ⟨cur, hc⟩ := h.most.own_blk e
      exact far hc (by decide) (by decide)
    zlen := h.zlen
    zat := h.zat
    has := h.has.turn ht fun b e => by
      obtain ⟨cur, hc⟩ := h.has.own_blk e
      exact far hc (by decide) (by decide)
    hlen := h.hlen
    row := fun j r f hr hf => by
      obtain ⟨h1, h2, h3⟩ := h.row j r f hr hf
      exact ⟨h1, h2.turn ht fun b e => by
        obtain ⟨cur, hc⟩ := h2.own_blk e
        exact far hc (by decide) (by decide), fun m x hx => ((h3 m x hx).turn ht fun b _ hf => ffar b hf).more fun b hb => .inl hb⟩
    ne := h.ne
    wts := by
      rw [List.map_append]
      exact hw'
    wr := by
      rw [List.map_append, h.wr]
      rfl
    wsec := fun x hxm => by
      rcases List.mem_append.1 hxm with hxm | hxm
      · exact ((h.wsec x hxm).turn ht fun b _ hf => ffar b hf).more fun b hb => .inl hb
      · rw [List.mem_singleton.1 hxm]
        exact hx.more fun b hb => .inr hb
    wok := fun x hxm => by
      rcases List.mem_append.1 (show x ∈ a.R ++ [(i, (k : Int), s)] from hxm) with hxm | hxm
      · exact h.wok x hxm
      · rw [List.mem_singleton.1 hxm]
        exact ⟨e, he, by show (0 : Int) ≤ (k : Int); omega, by show (k : Int) < _; omega⟩
    zm := fun b hb => .inl (h.zm b hb)
    zh := fun b hb => .inl (h.zh b hb)
    zlt := fun b hb => hb.elim (fun hb => Nat.lt_of_lt_of_le (h.zlt b hb) ht.size) fun hb => hb.2
    d1 := h.d1
    sz := h.sz }, rfl⟩, fun b hb => ?_, fun b hb => hb.imp (fun h => h) fun h => h.1, ht.mono fun b _ hb => hb.elim .inl fun e => .inr (.inr e.symm)⟩
  rcases hb with rfl | hb | hb
  · exact .inl (.inl rfl)
  · exact .inl (.inr (.inl hb))
  · rcases hv' with e | ⟨g, e, hg⟩
    · rw [e] at hb
      exact .inl (.inr (.inr hb))
    · rw [e] at hb
      injection hb with hb
      exact .inr (by omega)
end
end Go.Proofs.Yteedjfgandgbkaa
