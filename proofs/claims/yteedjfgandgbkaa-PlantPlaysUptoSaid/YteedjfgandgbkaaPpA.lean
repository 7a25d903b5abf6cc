/-
  A plant and the reference's, in plain data: one list of writes in their order, of which each disk has its own; what each call makes of both. No conditions.
-/
import Derived.Test.YteedjfgandgbkaaJa0
import Derived.Test.YteedjfgandgbkaaRfG
namespace Go.Proofs.Yteedjfgandgbkaa
open Go.RowKit Go.Maps
set_option linter.unusedVariables false
theorem snoc_ind {α : Type} {m : List α → Prop} (h0 : m []) (h1 : ∀ l x, m l → m (l ++ [x])) (l : List α) : m l := by
  have key : ∀ r : List α, m r.reverse := fun r => by
    induction r with
    | nil => exact h0
    | cons x r ih => rw [List.reverse_cons]; exact h1 _ _ ih
  have := key l.reverse
  rwa [List.reverse_reverse] at this
/-- the reference's plant -/
structure RP where
  ds : List (Nat × (Int → Option Sec))
  R : List WtR
  off : Bool
  burns : Bool
  left : Int
  done : Int
/-- a write, with its step -/
abbrev Mw := Int × WtR
/-- those of one disk -/
def devW (M : List Mw) (i : Nat) : List Wt := (M.filter fun x => decide (x.2.1 = i)).map fun x => (x.1, x.2.2.1, x.2.2.2)
theorem devW_nil (i : Nat) : devW [] i = [] := rfl
theorem devW_app (M N : List Mw) (i : Nat) : devW (M ++ N) i = devW M i ++ devW N i := by unfold devW; rw [List.filter_append, List.map_append]
theorem devW_one (st : Int) (j : Nat) (p : Int) (b : Sec) (i : Nat) : devW [(st, j, p, b)] i = if j = i then [(st, p, b)] else [] := by
  unfold devW
  by_cases h : j = i
  · rw [if_pos h, List.filter_cons_of_pos (by simpa using h)]
    rfl
  · rw [if_neg h, List.filter_cons_of_neg (by simpa using h)]
    rfl
theorem devW_cons (x : Mw) (M : List Mw) (i : Nat) : devW (x :: M) i = (if x.2.1 = i then [(x.1, x.2.2.1, x.2.2.2)] else []) ++ devW M i := by
  have := devW_app [x] M i
  obtain ⟨st, j, p, b⟩ := x
  rw [devW_one] at this
  exact this
theorem devW_mem {M : List Mw} {i : Nat} {w : Wt} (h : w ∈ devW M i) : ∃ x ∈ M, x.2.1 = i ∧ w = (x.1, x.2.2.1, x.2.2.2) := by
  unfold devW at h
  obtain ⟨x, hx, rfl⟩ := List.mem_map.1 h
  obtain ⟨h1, h2⟩ := List.mem_filter.1 hx
  exact ⟨x, h1, by simpa using h2, rfl⟩
/-- the two plants are the same -/
structure LkM (M : List Mw) (s : AP) (a : RP) : Prop where
  srt : M.Pairwise fun x y => x.1 < y.1
  top : ∀ x ∈ M, x.1 ≤ s.steps ∧ x.2.1 < s.ds.length
  rows : a.R = M.map (·.2)
  len : a.ds.length = s.ds.length
  at_ : ∀ i d e, s.ds[i]? = some d → a.ds[i]? = some e → d.n = (e.1 : Int) ∧ d.ws = devW M i ∧ ∀ k, (d.fl k).getD zeroSec = (e.2 k).getD zeroSec
  on : a.off = !s.on
  burns : a.burns = decide (0 ≤ s.fuse)
  left : 0 ≤ s.fuse → a.left = s.fuse
  done : a.done = s.steps
def Lk (s : AP) (a : RP) : Prop := ∃ M, LkM M s a
/-- the reference's sector that is read -/
def RP.read (a : RP) (e : Nat × (Int → Option Sec)) (i : Nat) (k : Int) : Sec := (rlast a.R i k).getD ((e.2 k).getD zeroSec)
theorem rlast_dev : ∀ (M : List Mw) (i : Nat) (k : Int), rlast (M.map (·.2)) i k = lastW (devW M i) k := fun M => by
  refine snoc_ind (m := fun M => ∀ (i : Nat) (k : Int), rlast (M.map (·.2)) i k = lastW (devW M i) k) (fun i k => rfl) (fun M x ih => ?_) M
  · intro i k
    obtain ⟨st, j, p, b⟩ := x
    rw [List.map_append, List.map_singleton, rlast_snoc, devW_app, devW_one, ih]
    by_cases h : j = i
    · rw [if_pos h, lastW_snoc]
      unfold upd
      by_cases h2 : p = k
      · rw [if_pos ⟨h, h2⟩, if_pos h2.symm]
      · rw [if_neg (fun e => h2 e.2), if_neg (fun e => h2 e.symm)]
    · rw [if_neg h, List.append_nil, if_neg (fun e => h e.1)]
theorem LkM.read {M : List Mw} {s : AP} {a : RP} (h : LkM M s a) {i : Nat} {d : AD} {e : Nat × (Int → Option Sec)} (hd : s.ds[i]? = some d) (he : a.ds[i]? = some e) (k : Int) : d.read k = a.read e i k := by
  obtain ⟨_, h2, h3⟩ := h.at_ i d e hd he
  unfold RP.read AD.read reads
  rw [h.rows, rlast_dev, h2]
  cases lastW (devW M i) k with
  | none => exact h3 k
  | some b => rfl
/-- a step that is done -/
def RP.tick (a : RP) : RP := { a with left := if a.burns then a.left - 1 else a.left, done := a.done + 1 }
def RP.cut (a : RP) : RP := { a with off := true, burns := false }
def RP.put (a : RP) (i : Nat) (place : Int) (b : Sec) : RP := { a.tick with R := a.R ++ [(i, place, b)] }
theorem burnt_at {f : Int} (h : 0 ≤ f) (h0 : f ≠ 0) : burnt f = f - 1 := by unfold burnt; rw [if_pos (by omega)]
theorem burnt_no {f : Int} (h : ¬ 0 ≤ f) : burnt f = f := by unfold burnt; rw [if_neg (by omega)]
theorem LkM.put {M : List Mw} {s : AP} {a : RP} (h : LkM M s a) {i : Nat} {d : AD} (hd : s.ds[i]? = some d) (h0 : s.fuse ≠ 0) (place : Int) (b : Sec) : Lk (s.put i d place b) (a.put i place b) := by
  have hi := (List.getElem?_eq_some_iff.1 hd).1
  refine ⟨M ++ [(s.steps + 1, i, place, b)], ?_, ?_, ?_, ?_, ?_, h.on, ?_, ?_, ?_⟩
  · refine List.pairwise_append.2 ⟨h.srt, List.pairwise_singleton _ _, fun x hx y hy => ?_⟩
    have := (h.top x hx).1
    rw [List.mem_singleton.1 hy]
    show x.1 < s.steps + 1
    omega
  · intro x hx
    show x.1 ≤ s.steps + 1 ∧ x.2.1 < (s.ds.set i _).length
    rw [List.length_set]
    rcases List.mem_append.1 hx with hx | hx
    · have := h.top x hx
      exact ⟨by omega, this.2⟩
    · rw [List.mem_singleton.1 hx]
      exact ⟨Int.le_refl _, hi⟩
  · show a.R ++ _ = _
    rw [List.map_append, h.rows]
    rfl
  · show a.ds.length = (s.ds.set i _).length
    rw [List.length_set]
    exact h.len
  · intro j e f he hf
    have he : (s.ds.set i { d with ws := d.ws ++ [(s.steps + 1, place, b)] })[j]? = some e := he
    have hf : a.ds[j]? = some f := hf
    rw [devW_app, devW_one]
    by_cases hij : i = j
    · subst hij
      rw [List.getElem?_set_self hi] at he
      injection he with he
      subst he
      obtain ⟨h1, h2, h3⟩ := h.at_ i d f hd hf
      rw [if_pos rfl]
      exact ⟨h1, by rw [← h2], h3⟩
    · rw [List.getElem?_set_ne hij] at he
      rw [if_neg hij, List.append_nil]
      exact h.at_ j e f he hf
  · show a.burns = decide (0 ≤ burnt s.fuse)
    rw [h.burns]
    by_cases hf : 0 ≤ s.fuse
    · rw [burnt_at hf h0]
      exact decide_eq_decide.2 ⟨fun _ => by omega, fun _ => hf⟩
    · rw [burnt_no hf]
  · intro hf
    have hf : 0 ≤ burnt s.fuse := hf
    show (if a.burns then a.left - 1 else a.left) = burnt s.fuse
    by_cases hg : 0 ≤ s.fuse
    · rw [h.burns, decide_eq_true hg, burnt_at hg h0, h.left hg]
      rfl
    · rw [burnt_no hg] at hf
      exact absurd hf hg
  · show a.done + 1 = s.steps + 1
    rw [h.done]
theorem LkM.burn {M : List Mw} {s : AP} {a : RP} (h : LkM M s a) : Lk s.burn a.cut :=
  ⟨M, h.srt, h.top, h.rows, h.len, h.at_, rfl, rfl, fun hf => absurd (show (0 : Int) ≤ -1 from hf) (by decide), h.done⟩
def RP.fuse (a : RP) (n : Int) : RP := if a.off then a else { a with burns := decide (0 ≤ n), left := n }
theorem LkM.fuse {M : List Mw} {s : AP} {a : RP} (h : LkM M s a) (n : Int) : Lk { s with fuse := if s.on then n else s.fuse } (a.fuse n) := by
  have ho := h.on
  unfold RP.fuse
  cases hs : s.on with
  | true =>
    rw [hs] at ho
    rw [ho]
    exact ⟨M, h.srt, h.top, h.rows, h.len, h.at_, rfl, rfl, fun _ => rfl, h.done⟩
  | false =>
    rw [hs] at ho
    rw [ho]
    exact ⟨M, h.srt, h.top, h.rows, h.len, h.at_, ho, h.burns, h.left, h.done⟩
/-- what the writes of a list make of a disk -/
def layW (ws : List Wt) (f : Int → Option Sec) : Int → Option Sec := ws.foldl (fun f x => upd f x.2.1 x.2.2) f
theorem layW_over : ∀ (ws : List Wt) (f : Int → Option Sec) (k : Int), over (lastW ws) f k = layW ws f k := fun ws => by
  refine snoc_ind (m := fun ws => ∀ (f : Int → Option Sec) (k : Int), over (lastW ws) f k = layW ws f k) (fun f k => rfl) (fun ws x ih => ?_) ws
  · intro f k
    unfold layW
    rw [lastW_snoc, List.foldl_append, List.foldl_cons, List.foldl_nil]
    show over (upd (lastW ws) x.2.1 x.2.2) f k = upd (layW ws f) x.2.1 x.2.2 k
    unfold over upd
    by_cases h : k = x.2.1
    · rw [if_pos h, if_pos h]
    · rw [if_neg h, if_neg h]
      exact ih f k
/-- the reference's disk behind the writes of R to disk i -/
def layR (R : List WtR) (i : Nat) (f : Int → Option Sec) : Int → Option Sec := R.foldl (fun f x => if x.1 = i then upd f x.2.1 x.2.2 else f) f
theorem layR_dev : ∀ (M : List Mw) (i : Nat) (f : Int → Option Sec), layR (M.map (·.2)) i f = layW (devW M i) f := fun M => by
  refine snoc_ind (m := fun M => ∀ (i : Nat) (f : Int → Option Sec), layR (M.map (·.2)) i f = layW (devW M i) f) (fun i f => rfl) (fun M x ih => ?_) M
  · intro i f
    obtain ⟨st, j, p, b⟩ := x
    unfold layR layW
    rw [List.map_append, List.foldl_append, devW_app, List.foldl_append, devW_one]
    show (if j = i then upd (layR (M.map (·.2)) i f) p b else layR (M.map (·.2)) i f) = _
    rw [ih]
    by_cases h : j = i
    · rw [if_pos h, if_pos h]; rfl
    · rw [if_neg h, if_neg h]; rfl
def RP.flush (a : RP) (i : Nat) : RP := match a.ds[i]? with
  | some e => { a.tick with ds := a.ds.set i (e.1, layR a.R i e.2), R := a.R.filter fun x => !decide (x.1 = i) }
  | none => a
theorem layW_getD : ∀ (ws : List Wt) (f g : Int → Option Sec), (∀ k, (f k).getD zeroSec = (g k).getD zeroSec) → ∀ k, (layW ws f k).getD zeroSec = (layW ws g k).getD zeroSec
  | [], f, g, h, k => h k
  | x :: ws, f, g, h, k => layW_getD ws (upd f x.2.1 x.2.2) (upd g x.2.1 x.2.2) (fun j => by
    unfold upd
    by_cases hj : j = x.2.1
    · rw [if_pos hj, if_pos hj]
    · rw [if_neg hj, if_neg hj]
      exact h j) k
theorem devW_filter (M : List Mw) (i j : Nat) : devW (M.filter fun x => !decide (x.2.1 = i)) j = if j = i then [] else devW M j := by
  unfold devW
  rw [List.filter_filter]
  by_cases h : j = i
  · rw [if_pos h, List.filter_eq_nil_iff.2 (fun x _ => by simp; intro e; rw [e]; exact h)]
    rfl
  · rw [if_neg h]
    congr 1
    refine List.filter_congr fun x _ => ?_
    by_cases e : x.2.1 = j
    · have : x.2.1 ≠ i := fun e2 => h (e.symm.trans e2)
      simp [e]
      exact h
    · simp [e]
theorem LkM.flush {M : List Mw} {s : AP} {a : RP} (h : LkM M s a) {i : Nat} {d : AD} (hd : s.ds[i]? = some d) (h0 : s.fuse ≠ 0) : Lk (s.flushed i d) (a.flush i) := by
  have hi := (List.getElem?_eq_some_iff.1 hd).1
  obtain ⟨e, he⟩ : ∃ e, a.ds[i]? = some e := ⟨_, List.getElem?_eq_getElem (by rw [h.len]; exact hi)⟩
  obtain ⟨h1, h2, h3⟩ := h.at_ i d e hd he
  unfold RP.flush
  rw [he]
  refine ⟨M.filter fun x => !decide (x.2.1 = i), h.srt.sublist List.filter_sublist, fun x hx => ?_, ?_, ?_, ?_, h.on, ?_, ?_, ?_⟩
  · have := h.top x (List.mem_filter.1 hx).1
    show x.1 ≤ s.steps + 1 ∧ x.2.1 < (s.ds.set i _).length
    rw [List.length_set]
    exact ⟨by omega, this.2⟩
  · show a.R.filter _ = _
    rw [h.rows, List.filter_map]
    rfl
  · show (a.ds.set i _).length = (s.ds.set i _).length
    rw [List.length_set, List.length_set, h.len]
  · intro j f g hf hg
    have hf : (s.ds.set i { d with fl := over (lastW d.ws) d.fl, ws := [] })[j]? = some f := hf
    have hg : (a.ds.set i (e.1, layR a.R i e.2))[j]? = some g := hg
    rw [devW_filter]
    by_cases hij : i = j
    · subst hij
      rw [List.getElem?_set_self hi] at hf
      rw [List.getElem?_set_self (by rw [h.len]; exact hi)] at hg
      injection hf with hf
      injection hg with hg
      subst hf hg
      rw [if_pos rfl]
      refine ⟨h1, rfl, fun k => ?_⟩
      show (over (lastW d.ws) d.fl k).getD zeroSec = (layR a.R i e.2 k).getD zeroSec
      rw [layW_over, h.rows, layR_dev, h2]
      exact layW_getD _ _ _ h3 k
    · rw [List.getElem?_set_ne hij] at hf hg
      rw [if_neg (fun e => hij e.symm)]
      exact h.at_ j f g hf hg
  · show a.burns = decide (0 ≤ burnt s.fuse)
    rw [h.burns]
    by_cases hf : 0 ≤ s.fuse
    · rw [burnt_at hf h0]
      exact decide_eq_decide.2 ⟨fun _ => by omega, fun _ => hf⟩
    · rw [burnt_no hf]
  · intro hf
    have hf : 0 ≤ burnt s.fuse := hf
    show (if a.burns then a.left - 1 else a.left) = burnt s.fuse
    by_cases hg : 0 ≤ s.fuse
    · rw [h.burns, decide_eq_true hg, burnt_at hg h0, h.left hg]
      rfl
    · rw [burnt_no hg] at hf
      exact absurd hf hg
  · show a.done + 1 = s.steps + 1
    rw [h.done]
/-- the reference's boot: each write in its order -/
def bootD (j : Int) (x : WtR) (ds : List (Nat × (Int → Option Sec))) : List (Nat × (Int → Option Sec)) := match ds[x.1]? with
  | some e => ds.set x.1 (e.1, upd e.2 x.2.1 (bootSec j ((e.2 x.2.1).getD zeroSec) x.2.2))
  | none => ds
def bootR (kf : Nat → Int) : Nat → List WtR → List (Nat × (Int → Option Sec)) → List (Nat × (Int → Option Sec))
  | _, [], ds => ds
  | i, x :: R, ds => bootR kf (i + 1) R (bootD (kf i) x ds)
def RP.boot (a : RP) (zs : List Int) : RP := { a with ds := bootR (fun i => low2 (kval zs i)) 0 a.R a.ds, R := [], off := false, burns := false }
/-- disks alike, M waits -/
structure DsM (M : List Mw) (ds : List AD) (es : List (Nat × (Int → Option Sec))) : Prop where
  srt : M.Pairwise fun x y => x.1 < y.1
  top : ∀ x ∈ M, x.2.1 < ds.length
  len : es.length = ds.length
  at_ : ∀ i d e, ds[i]? = some d → es[i]? = some e → d.n = (e.1 : Int) ∧ d.ws = devW M i ∧ ∀ k, (d.fl k).getD zeroSec = (e.2 k).getD zeroSec
theorem DsM.waits {M : List Mw} {ds : List AD} {es : List (Nat × (Int → Option Sec))} (h : DsM M ds es) {i : Nat} (hi : i < ds.length) : ∃ d e, ds[i]? = some d ∧ es[i]? = some e ∧ d.n = (e.1 : Int) ∧ d.ws = devW M i ∧ ∀ k, (d.fl k).getD zeroSec = (e.2 k).getD zeroSec := by
  have h1 : ds[i]? = some ds[i] := List.getElem?_eq_getElem hi
  have h2 : es[i]? = some (es[i]'(by rw [h.len]; exact hi)) := List.getElem?_eq_getElem (by rw [h.len]; exact hi)
  exact ⟨_, _, h1, h2, h.at_ i _ _ h1 h2⟩
/-- the first write of all is picked -/
theorem pick_first {x : Mw} {M : List Mw} {ds : List AD} {es : List (Nat × (Int → Option Sec))} (h : DsM (x :: M) ds es) : ∀ k, k ≤ ds.length → (x.2.1 < k → pick ds k = some x.2.1) ∧ ∀ j, pick ds k = some j → j < k := by
  have hx := h.top x (List.mem_cons_self ..)
  obtain ⟨hlt, _⟩ := List.pairwise_cons.1 h.srt
  have own : 0 < waitsAt ds x.2.1 ∧ stepAt ds x.2.1 = x.1 := by
    obtain ⟨d, e, h1, _, _, h3, _⟩ := h.waits hx
    rw [devW_cons, if_pos rfl] at h3
    unfold waitsAt stepAt headStep
    rw [h1]
    simp only [h3]
    exact ⟨by simp, rfl⟩
  have oth : ∀ j, j < ds.length → j ≠ x.2.1 → 0 < waitsAt ds j → x.1 < stepAt ds j := by
    intro j hj hne hw
    obtain ⟨d, e, h1, _, _, h3, _⟩ := h.waits hj
    rw [devW_cons, if_neg (fun e => hne e.symm), List.nil_append] at h3
    unfold waitsAt at hw
    unfold stepAt headStep
    rw [h1] at hw ⊢
    simp only [h3] at hw ⊢
    cases hq : devW M j with
    | nil => rw [hq] at hw; simp at hw
    | cons y r =>
      simp only
      obtain ⟨z, hz, _, rfl⟩ := devW_mem (M := M) (i := j) (w := y) (by rw [hq]; exact List.mem_cons_self ..)
      exact hlt z hz
  intro k
  induction k with
  | zero => exact fun _ => ⟨fun h => absurd h (by omega), fun j h => (by cases h)⟩
  | succ k ih =>
    intro hk
    obtain ⟨ih1, ih2⟩ := ih (by omega)
    refine ⟨fun hxk => ?_, fun j hj => (pick_some ds (k + 1) j hj).1⟩
    unfold pick
    by_cases hkx : k = x.2.1
    · rw [hkx, if_pos own.1]
      cases hp : pick ds x.2.1 with
      | none => rfl
      | some j =>
        obtain ⟨j1, j2⟩ := pick_some ds _ j hp
        simp only
        rw [if_pos (by rw [own.2]; exact oth j (by omega) (by omega) j2)]
    · have hp := ih1 (by omega)
      rw [hp]
      simp only
      by_cases hw : 0 < waitsAt ds k
      · rw [if_pos hw, if_neg (by rw [own.2]; have := oth k (by omega) hkx hw; omega)]
      · rw [if_neg hw]
theorem pick_nobody {ds : List AD} {es : List (Nat × (Int → Option Sec))} (h : DsM [] ds es) : ∀ k, k ≤ ds.length → pick ds k = none
  | 0, _ => rfl
  | k + 1, hk => by
    unfold pick
    have hw : ¬ 0 < waitsAt ds k := by
      obtain ⟨d, e, h1, _, _, h3, _⟩ := h.waits (show k < ds.length by omega)
      unfold waitsAt
      rw [h1]
      simp only [h3]
      rw [devW_nil]
      simp
    rw [if_neg hw]
    exact pick_nobody h k (by omega)
theorem bootFl_getD (j p : Int) (b : Sec) (f g : Int → Option Sec) (h : ∀ k, (f k).getD zeroSec = (g k).getD zeroSec) (k : Int) : (bootFl j p b f k).getD zeroSec = (upd g p (bootSec j ((g p).getD zeroSec) b) k).getD zeroSec := by
  unfold bootFl
  by_cases hj : j = 0
  · rw [if_pos hj]
    unfold upd
    by_cases hk : k = p
    · subst hk
      rw [if_pos rfl, h k]
      unfold bootSec
      rw [if_neg (by omega), if_neg (by omega), if_neg (by omega)]
      rfl
    · rw [if_neg hk]
      exact h k
  · rw [if_neg hj]
    unfold upd
    by_cases hk : k = p
    · rw [if_pos hk, if_pos hk, h p]
    · rw [if_neg hk, if_neg hk]
      exact h k
theorem boot_run (kf : Nat → Int) : ∀ (M : List Mw) (f i : Nat) (ds : List AD) (es : List (Nat × (Int → Option Sec))), DsM M ds es → M.length ≤ f → DsM [] (bootRun kf f i ds) (bootR kf i (M.map (·.2)) es) := by
  intro M
  induction M with
  | nil =>
    intro f i ds es h hf
    cases f with
    | zero => exact h
    | succ f =>
      unfold bootRun
      rw [pick_nobody h _ (Nat.le_refl _)]
      exact h
  | cons x M ih =>
    intro f i ds es h hf
    cases f with
    | zero => simp at hf
    | succ f =>
      have hx := h.top x (List.mem_cons_self ..)
      obtain ⟨_, hsrt⟩ := List.pairwise_cons.1 h.srt
      have hp := (pick_first h ds.length (Nat.le_refl _)).1 hx
      unfold bootRun
      rw [hp]
      obtain ⟨d, e, h1, h2, h3, h4, h5⟩ := h.waits hx
      show DsM [] (bootRun kf f (i + 1) (bootOne (kf i) x.2.1 ds)) (bootR kf (i + 1) (M.map (·.2)) (bootD (kf i) x.2 es))
      refine ih f (i + 1) _ _ ?_ (by simpa using hf)
      have hw : d.ws = (x.1, x.2.2.1, x.2.2.2) :: devW M x.2.1 := by rw [h4, devW_cons, if_pos rfl]; rfl
      have e1 : bootOne (kf i) x.2.1 ds = ds.set x.2.1 { d with fl := bootFl (kf i) x.2.2.1 x.2.2.2 d.fl, ws := devW M x.2.1 } := by
        unfold bootOne
        rw [h1]
        simp only [hw]
      have e2 : bootD (kf i) x.2 es = es.set x.2.1 (e.1, upd e.2 x.2.2.1 (bootSec (kf i) ((e.2 x.2.2.1).getD zeroSec) x.2.2.2)) := by
        unfold bootD
        rw [h2]
      rw [e1, e2]
      refine ⟨hsrt, fun y hy => by rw [List.length_set]; exact h.top y (List.mem_cons_of_mem _ hy), by rw [List.length_set, List.length_set]; exact h.len, fun j f g hf hg => ?_⟩
      by_cases hj : x.2.1 = j
      · subst hj
        rw [List.getElem?_set_self hx] at hf
        rw [List.getElem?_set_self (by rw [h.len]; exact hx)] at hg
        injection hf with hf
        injection hg with hg
        subst hf hg
        exact ⟨h3, rfl, fun k => bootFl_getD _ _ _ _ _ h5 k⟩
      · rw [List.getElem?_set_ne hj] at hf hg
        obtain ⟨g1, g2, g3⟩ := h.at_ j f g hf hg
        rw [devW_cons, if_neg hj] at g2
        exact ⟨g1, g2, g3⟩
theorem total_dev : ∀ (M : List Mw) (ds : List AD), (∀ x ∈ M, x.2.1 < ds.length) → (∀ i d, ds[i]? = some d → d.ws = devW M i) → M.length ≤ total ds := by
  intro M
  induction M with
  | nil => intro ds _ _; exact Nat.zero_le _
  | cons x M ih =>
    intro ds ht hd
    have hx := ht x (List.mem_cons_self ..)
    have h1 : ds[x.2.1]? = some ds[x.2.1] := List.getElem?_eq_getElem hx
    have hw := hd _ _ h1
    rw [devW_cons, if_pos rfl] at hw
    have h2 := total_set ds x.2.1 ds[x.2.1] { ds[x.2.1] with ws := devW M x.2.1 } h1 (by rw [hw]; simp)
    rw [h2, List.length_cons]
    refine Nat.succ_le_succ (ih _ (fun y hy => by rw [List.length_set]; exact ht y (List.mem_cons_of_mem _ hy)) fun j f hf => ?_)
    by_cases hj : x.2.1 = j
    · subst hj
      rw [List.getElem?_set_self hx] at hf
      injection hf with hf
      subst hf
      rfl
    · rw [List.getElem?_set_ne hj] at hf
      have := hd j f hf
      rw [devW_cons, if_neg hj] at this
      exact this
theorem LkM.boot {M : List Mw} {s : AP} {a : RP} (h : LkM M s a) (zs : List Int) : Lk (s.boot zs) (a.boot zs) := by
  have hds : DsM M s.ds a.ds := ⟨h.srt, fun x hx => (h.top x hx).2, h.len, h.at_⟩
  have hd : ∀ i d, s.ds[i]? = some d → d.ws = devW M i := fun i d hid => by
    have hi := (List.getElem?_eq_some_iff.1 hid).1
    obtain ⟨d', e, h1, _, _, h3, _⟩ := hds.waits hi
    rw [hid] at h1
    injection h1 with h1
    rw [h1]
    exact h3
  have hb := boot_run (fun i => low2 (kval zs i)) M (total s.ds) 0 s.ds a.ds hds (total_dev M s.ds (fun x hx => (h.top x hx).2) hd)
  rw [← h.rows] at hb
  exact ⟨[], List.Pairwise.nil, fun x hx => (by cases hx), rfl, hb.len, hb.at_, rfl, rfl, fun hf => absurd (show (0 : Int) ≤ -1 from hf) (by decide), h.done⟩
end Go.Proofs.Yteedjfgandgbkaa
