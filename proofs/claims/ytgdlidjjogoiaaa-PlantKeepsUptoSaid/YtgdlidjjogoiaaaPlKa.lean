/-
  groatlaw03's PlantKeeps: its plain data. No conditions.
-/
import Derived.Test.YtgdlidjjogoiaaaPlHv
import Derived.Test.YtgdlidjjogoiaaaPlLa
import Derived.Test.YtgdlidjjogoiaaaPlLb
namespace Go.Proofs.Ytgdlidjjogoiaaa
open Go.RowKit Go.Maps
set_option linter.unusedVariables false
/-- the boot of one disk -/
def bootMany (kf : Nat → Int) : Nat → List Wt → (Int → Option Sec) → Int → Option Sec
  | _, [], ff => ff
  | i, x :: r, ff => bootMany kf (i + 1) r (bootFl (kf i) x.2.1 x.2.2 ff)
theorem pick_one_nil {d : AD} (h : d.ws = []) : pick [d] 1 = none := by
  have hw : waitsAt [d] 0 = 0 := by
    show d.ws.length = 0
    rw [h]
    rfl
  simp [pick, hw]
theorem pick_one_cons {d : AD} {x : Wt} {r : List Wt} (h : d.ws = x :: r) : pick [d] 1 = some 0 := by
  have hw : waitsAt [d] 0 = r.length + 1 := by
    show d.ws.length = _
    rw [h]
    rfl
  simp [pick, hw]
theorem bootRun_one (kf : Nat → Int) : ∀ (ws : List Wt) (i : Nat) (n : Int) (ff : Int → Option Sec), bootRun kf ws.length i [⟨n, ff, ws⟩] = [⟨n, bootMany kf i ws ff, []⟩]
  | [], _, _, _ => rfl
  | x :: r, i, n, ff => by
    show bootRun kf (r.length + 1) i [⟨n, ff, x :: r⟩] = _
    unfold bootRun
    have hp : pick [(⟨n, ff, x :: r⟩ : AD)] ([(⟨n, ff, x :: r⟩ : AD)]).length = some 0 := pick_one_cons (d := ⟨n, ff, x :: r⟩) rfl
    rw [hp]
    exact bootRun_one kf r (i + 1) n (bootFl (kf i) x.2.1 x.2.2 ff)
theorem boot_one {s : AP} {d : AD} (zs : List Int) (h : s.ds = [d]) : (s.boot zs).ds = [⟨d.n, bootMany (fun i => low2 (kval zs i)) 0 d.ws d.fl, []⟩] := by
  have ht : total s.ds = d.ws.length := by
    rw [h]
    show d.ws.length + 0 = _
    rfl
  unfold AP.boot
  simp only
  rw [ht, h]
  exact bootRun_one _ d.ws 0 d.n d.fl
/-- a sector of two halves, each a row of one byte that is as ok asks -/
def Hv (ok : UInt8 → Prop) (S : Sec) : Prop := ∃ a b, ok a ∧ ok b ∧ S.1 = List.replicate 32 a ++ List.replicate 32 b
theorem Hv.mono {ok ok' : UInt8 → Prop} (h : ∀ a, ok a → ok' a) {S : Sec} : Hv ok S → Hv ok' S := fun ⟨a, b, h1, h2, h3⟩ => ⟨a, b, h a h1, h b h2, h3⟩
theorem Hv.full {ok : UInt8 → Prop} {c : UInt8} (h : ok c) : Hv ok (fullS c) := ⟨c, c, h, h, by show List.replicate 64 c = _; rw [List.replicate_append_replicate]⟩
theorem hv_take {a b : UInt8} : (List.replicate 32 a ++ List.replicate 32 b).take 32 = List.replicate 32 a := by
  rw [List.take_append_of_le_length (by simp)]
  simp
theorem hv_drop {a b : UInt8} : (List.replicate 32 a ++ List.replicate 32 b).drop 32 = List.replicate 32 b := by
  rw [List.drop_append_of_le_length (by simp)]
  simp
theorem Hv.boot {ok : UInt8 → Prop} {S T : Sec} (j : Int) (hS : Hv ok S) (hT : Hv ok T) : Hv ok (bootSec j S T) := by
  obtain ⟨a, b, h1, h2, h3⟩ := hS
  obtain ⟨c, d, g1, g2, g3⟩ := hT
  unfold bootSec
  split
  · exact ⟨c, d, g1, g2, g3⟩
  split
  · refine ⟨c, b, g1, h2, ?_⟩
    show T.1.take 32 ++ S.1.drop 32 = _
    rw [h3, g3, hv_take, hv_drop]
  split
  · refine ⟨a, d, h1, g2, ?_⟩
    show S.1.take 32 ++ T.1.drop 32 = _
    rw [h3, g3, hv_take, hv_drop]
  · exact ⟨a, b, h1, h2, h3⟩
theorem bootMany_hv (kf : Nat → Int) (ok : Int → UInt8 → Prop) : ∀ (ws : List Wt) (i : Nat) (ff : Int → Option Sec), (∀ x ∈ ws, Hv (ok x.2.1) x.2.2) → ∀ place, Hv (ok place) ((ff place).getD zeroSec) → Hv (ok place) ((bootMany kf i ws ff place).getD zeroSec)
  | [], _, _, _, _, h => h
  | x :: r, i, ff, hw, place, h => by
    refine bootMany_hv kf ok r (i + 1) _ (fun y hy => hw y (List.mem_cons_of_mem _ hy)) place ?_
    have hx := hw x (List.mem_cons_self ..)
    unfold bootFl
    split
    · exact h
    · unfold upd
      split
      · rename_i e
        subst e
        exact Hv.boot _ h hx
      · exact h
theorem bootMany_zero (kf : Nat → Int) (hk : ∀ i, kf i = 0) : ∀ (ws : List Wt) (i : Nat) (ff : Int → Option Sec), bootMany kf i ws ff = ff
  | [], _, _ => rfl
  | x :: r, i, ff => by
    show bootMany kf (i + 1) r (bootFl (kf i) x.2.1 x.2.2 ff) = ff
    rw [bootMany_zero kf hk r, hk i]
    rfl
/-- what the law's old has behind k of the first writes -/
def oldK (zs : List UInt8) : Nat → List UInt8
  | 0 => List.replicate 16 0
  | k + 1 => (oldK zs k).set (k % 16) (zs.getD k 0)
theorem oldK_length (zs : List UInt8) : ∀ k, (oldK zs k).length = 16
  | 0 => rfl
  | k + 1 => by
    show ((oldK zs k).set _ _).length = 16
    rw [List.length_set, oldK_length zs k]
/-- the plant behind k of the first writes -/
structure KpA (zs : List UInt8) (k : Nat) (s : AP) : Prop where
  on : s.on = true
  fuse : s.fuse = -1
  ds : ∃ ws, s.ds = [⟨16, fun _ => none, ws⟩] ∧ ∀ m, m < 16 → (lastW ws ((m : Nat) : Int)).getD zeroSec = fullS ((oldK zs k).getD m 0)
theorem KpA.start (zs : List UInt8) : KpA zs 0 (AP.new [16]) := by
  refine ⟨rfl, rfl, [], rfl, fun m hm => ?_⟩
  have : (oldK zs 0).getD m 0 = 0 := by
    show (List.replicate 16 (0 : UInt8)).getD m 0 = 0
    rw [List.getD_eq_getElem?_getD, List.getElem?_replicate]
    split <;> rfl
  rw [this]
  rfl
theorem KpA.put {zs : List UInt8} {k : Nat} {s : AP} (h : KpA zs k s) {d : AD} (hd : s.ds[0]? = some d) {b : Sec} (hb : b = fullS (zs.getD k 0)) {place : Int} (hp : place = ((k % 16 : Nat) : Int)) : KpA zs (k + 1) (s.put 0 d place b) := by
  obtain ⟨h1, h2, ws, h3, h4⟩ := h
  subst hb hp
  rw [h3] at hd
  cases hd
  refine ⟨h1, by show burnt s.fuse = -1; rw [h2]; rfl, ws ++ [(s.steps + 1, ((k % 16 : Nat) : Int), fullS (zs.getD k 0))], by show s.ds.set 0 _ = _; rw [h3]; rfl, fun m hm => ?_⟩
  rw [lastW_snoc]
  show (upd (lastW ws) ((k % 16 : Nat) : Int) (fullS (zs.getD k 0)) ((m : Nat) : Int)).getD zeroSec = fullS (((oldK zs k).set (k % 16) (zs.getD k 0)).getD m 0)
  rw [List.getD_eq_getElem?_getD (l := (oldK zs k).set (k % 16) (zs.getD k 0)), List.getElem?_set, oldK_length]
  unfold upd
  by_cases e : k % 16 = m
  · rw [if_pos (by omega), if_pos e, if_pos (by omega)]
    rfl
  · rw [if_neg (by omega), if_neg e, ← List.getD_eq_getElem?_getD]
    exact h4 m hm
theorem KpA.disk {zs : List UInt8} {k : Nat} {s : AP} (h : KpA zs k s) : ∃ d, s.ds[0]? = some d ∧ d.n = 16 := by
  obtain ⟨_, _, ws, h3, _⟩ := h
  exact ⟨_, by rw [h3]; rfl, rfl⟩
/-- the plant behind k of the others; old: what was flushed -/
structure KpB (old : List UInt8) (ts : List UInt8) (k : Nat) (s : AP) : Prop where
  on : s.on = true
  fuse : s.fuse = -1
  ds : ∃ fl ws, s.ds = [⟨16, fl, ws⟩] ∧ (∀ m, m < 16 → (fl ((m : Nat) : Int)).getD zeroSec = fullS (old.getD m 0)) ∧ ∀ x ∈ ws, ∃ i, i < k ∧ x.2.1 = ((3 * i % 16 : Nat) : Int) ∧ x.2.2 = fullS (ts.getD i 0)
theorem KpA.flushed {zs ts : List UInt8} {k : Nat} {s : AP} (h : KpA zs k s) {d : AD} (hd : s.ds[0]? = some d) : KpB (oldK zs k) ts 0 (s.flushed 0 d) := by
  obtain ⟨h1, h2, ws, h3, h4⟩ := h
  rw [h3] at hd
  cases hd
  refine ⟨h1, by show burnt s.fuse = -1; rw [h2]; rfl, over (lastW ws) fun _ => none, [], by show s.ds.set 0 _ = _; rw [h3]; rfl, fun m hm => ?_, fun x hx => by cases hx⟩
  rw [← h4 m hm]
  unfold over
  cases hl : lastW ws ((m : Nat) : Int) with
  | none => rfl
  | some b => rfl
theorem KpB.put {old ts : List UInt8} {k : Nat} {s : AP} (h : KpB old ts k s) {d : AD} (hd : s.ds[0]? = some d) {b : Sec} (hb : b = fullS (ts.getD k 0)) {place : Int} (hp : place = ((3 * k % 16 : Nat) : Int)) : KpB old ts (k + 1) (s.put 0 d place b) := by
  obtain ⟨h1, h2, fl, ws, h3, h4, h5⟩ := h
  subst hb hp
  rw [h3] at hd
  cases hd
  refine ⟨h1, by show burnt s.fuse = -1; rw [h2]; rfl, fl, ws ++ [(s.steps + 1, ((3 * k % 16 : Nat) : Int), fullS (ts.getD k 0))], by show s.ds.set 0 _ = _; rw [h3]; rfl, h4, fun x hx => ?_⟩
  rcases List.mem_append.1 hx with hx | hx
  · obtain ⟨i, hi, h6⟩ := h5 x hx
    exact ⟨i, by omega, h6⟩
  · rw [List.mem_singleton.1 hx]
    exact ⟨k, by omega, rfl, rfl⟩
theorem KpB.disk {old ts : List UInt8} {k : Nat} {s : AP} (h : KpB old ts k s) : ∃ d, s.ds[0]? = some d ∧ d.n = 16 := by
  obtain ⟨_, _, fl, ws, h3, _⟩ := h
  exact ⟨_, by rw [h3]; rfl, rfl⟩
/-- what a half of sector m may be a row of -/
def MayBe (old ts : List UInt8) (k m : Nat) (c : UInt8) : Prop := c = old.getD m 0 ∨ ∃ i, i < k ∧ 3 * i % 16 = m ∧ c = ts.getD i 0
/-- behind a boot: any part kept -/
theorem KpB.boot {old ts : List UInt8} {k : Nat} {s : AP} (h : KpB old ts k s) (zs : List Int) : (s.boot zs).on = true ∧ ∃ d, (s.boot zs).ds[0]? = some d ∧ d.n = 16 ∧ ∀ m, m < 16 → Hv (MayBe old ts k m) (d.read ((m : Nat) : Int)) := by
  obtain ⟨h1, h2, fl, ws, h3, h4, h5⟩ := h
  refine ⟨rfl, ⟨16, bootMany (fun i => low2 (kval zs i)) 0 ws fl, []⟩, by rw [boot_one zs h3]; rfl, rfl, fun m hm => ?_⟩
  show Hv _ ((bootMany (fun i => low2 (kval zs i)) 0 ws fl ((m : Nat) : Int)).getD zeroSec)
  refine (bootMany_hv _ (fun place => MayBe old ts k place.toNat) ws 0 fl (fun x hx => ?_) ((m : Nat) : Int) ?_).mono fun a ha => ?_
  · obtain ⟨i, hi, e1, e2⟩ := h5 x hx
    rw [e1, e2]
    exact Hv.full (.inr ⟨i, hi, (Int.toNat_natCast _).symm, rfl⟩)
  · rw [h4 m hm, Int.toNat_natCast]
    exact Hv.full (.inl rfl)
  · rw [Int.toNat_natCast] at ha
    exact ha
theorem low2_zero : low2 0 = 0 := by decide
/-- behind a boot: nothing kept -/
theorem KpB.bootNil {old ts : List UInt8} {k : Nat} {s : AP} (h : KpB old ts k s) : (s.boot []).on = true ∧ ∃ d, (s.boot []).ds[0]? = some d ∧ d.n = 16 ∧ ∀ m, m < 16 → d.read ((m : Nat) : Int) = fullS (old.getD m 0) := by
  obtain ⟨h1, h2, fl, ws, h3, h4, h5⟩ := h
  refine ⟨rfl, ⟨16, bootMany (fun i => low2 (kval [] i)) 0 ws fl, []⟩, by rw [boot_one [] h3]; rfl, rfl, fun m hm => ?_⟩
  show (bootMany (fun i => low2 (kval [] i)) 0 ws fl ((m : Nat) : Int)).getD zeroSec = _
  rw [bootMany_zero _ (fun i => by show low2 (kval [] i) = 0; unfold kval; rw [if_pos (by rfl)]; exact low2_zero)]
  exact h4 m hm
end Go.Proofs.Ytgdlidjjogoiaaa
