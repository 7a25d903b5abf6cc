/-
  groatlaw03's PlantOff: its plain data, and what each call comes to. No conditions.
-/
import Derived.Test.YtgdlidjjogoiaaaPlHv
import Derived.Test.YtgdlidjjogoiaaaPlLa
import Derived.Test.YtgdlidjjogoiaaaPlLb
namespace Go.Proofs.Ytgdlidjjogoiaaa
open Go.RowKit Go.Maps
set_option linter.unusedVariables false
def AP.wr (s : AP) (d : AD) (place : Int) (b : Sec) : AP := if s.on = true then (if s.fuse = 0 then s.burn else s.put 0 d place b) else s
def wrC (s : AP) : Int := if s.on = true then (if s.fuse = 0 then 2 else 0) else 2
/-- a plant of one disk of 8 sectors behind k writes, with f steps ahead of the power's end -/
structure OfI (f k : Nat) (s : AP) : Prop where
  on : s.on = decide (k ≤ f)
  fuse : s.fuse = if k ≤ f then ((f - k : Nat) : Int) else -1
  len : s.ds.length = 1
  n : ∀ d, s.ds[0]? = some d → d.n = 8
  steps : s.steps = ((min f k : Nat) : Int)
theorem OfI.start (f : Nat) : OfI f 0 { AP.new [8] with fuse := (f : Int) } := by
  refine ⟨by rw [decide_eq_true (Nat.zero_le f)]; rfl, by rw [if_pos (Nat.zero_le f), Nat.sub_zero], rfl, fun d hd => ?_, by simp [AP.new]⟩
  have : d = ⟨8, fun _ => none, []⟩ := by
    have h : some (⟨8, fun _ => none, []⟩ : AD) = some d := hd
    injection h with h
    exact h.symm
  rw [this]
theorem OfI.wr {f k : Nat} {s : AP} (h : OfI f k s) {d : AD} (hd : s.ds[0]? = some d) (place : Int) (b : Sec) : OfI f (k + 1) (s.wr d place b) ∧ wrC s = if k < f then 0 else 2 := by
  obtain ⟨h1, h2, h3, h4, h5⟩ := h
  rcases Nat.lt_trichotomy k f with hk | hk | hk
  · rw [decide_eq_true (by omega)] at h1
    rw [if_pos (by omega)] at h2
    have h0 : s.fuse ≠ 0 := by omega
    refine ⟨?_, by unfold wrC; rw [if_pos h1, if_neg h0, if_pos hk]⟩
    unfold AP.wr
    rw [if_pos h1, if_neg h0]
    refine ⟨?_, ?_, by simp [AP.put, h3], fun d' hd' => ?_, ?_⟩
    · rw [decide_eq_true (by omega)]
      exact h1
    · rw [if_pos (by omega)]
      show burnt s.fuse = _
      unfold burnt
      rw [if_pos (by omega)]
      omega
    · simp only [AP.put] at hd'
      rw [List.getElem?_set_self (by omega)] at hd'
      cases hd'
      exact h4 d hd
    · show s.steps + 1 = _
      omega
  · subst hk
    rw [decide_eq_true (by omega)] at h1
    rw [if_pos (by omega)] at h2
    have h0 : s.fuse = 0 := by omega
    refine ⟨?_, by unfold wrC; rw [if_pos h1, if_pos h0, if_neg (by omega)]⟩
    unfold AP.wr
    rw [if_pos h1, if_pos h0]
    refine ⟨?_, ?_, h3, h4, ?_⟩
    · rw [decide_eq_false (by omega)]
      rfl
    · rw [if_neg (by omega)]
      rfl
    · show s.steps = _
      omega
  · rw [decide_eq_false (by omega)] at h1
    rw [if_neg (by omega)] at h2
    have h1' : ¬ s.on = true := by rw [h1]; decide
    refine ⟨?_, by unfold wrC; rw [if_neg h1', if_neg (by omega)]⟩
    unfold AP.wr
    rw [if_neg h1']
    exact ⟨by rw [decide_eq_false (by omega)]; exact h1, by rw [if_neg (by omega)]; exact h2, h3, h4, by omega⟩
/-- the same behind the power's end -/
structure OfX (m : Nat) (s : AP) : Prop where
  on : s.on = false
  fuse : s.fuse = -1
  len : s.ds.length = 1
  n : ∀ d, s.ds[0]? = some d → d.n = 8
  steps : s.steps = (m : Int)
theorem OfI.end_ {f k : Nat} {s : AP} (h : OfI f k s) : OfX (min f k) s.burn := ⟨rfl, rfl, h.len, h.n, h.steps⟩
theorem bootOne_n (q : Int) (j : Nat) (ds : List AD) : (bootOne q j ds).map (·.n) = ds.map (·.n) := by
  unfold bootOne
  split
  · rename_i d hd
    split
    · rw [List.map_set]
      apply List.ext_getElem?
      intro i
      rw [List.getElem?_set]
      split
      · rename_i e
        subst e
        split
        · rw [List.getElem?_map, hd]
          rfl
        · rename_i hl
          rw [List.getElem?_eq_none (by omega)]
      · rfl
    · rfl
  · rfl
theorem bootRun_n (kf : Nat → Int) : ∀ (f i : Nat) (ds : List AD), (bootRun kf f i ds).map (·.n) = ds.map (·.n)
  | 0, _, _ => rfl
  | f + 1, i, ds => by
    unfold bootRun
    split
    · rw [bootRun_n kf f, bootOne_n]
    · rfl
theorem boot_disk {s : AP} (zs : List Int) (hl : s.ds.length = 1) {n : Int} (hn : ∀ d, s.ds[0]? = some d → d.n = n) : ∃ d, (s.boot zs).ds[0]? = some d ∧ d.n = n := by
  have h1 := bootRun_n (fun i => low2 (kval zs i)) (total s.ds) 0 s.ds
  have h2 := bootRun_length (fun i => low2 (kval zs i)) (total s.ds) 0 s.ds
  obtain ⟨d, hd⟩ : ∃ d, (s.boot zs).ds[0]? = some d := ⟨_, List.getElem?_eq_getElem (by show 0 < (bootRun _ _ _ _).length; omega)⟩
  refine ⟨d, hd, ?_⟩
  obtain ⟨d0, hd0⟩ : ∃ d0, s.ds[0]? = some d0 := ⟨_, List.getElem?_eq_getElem (by omega)⟩
  have h3 := congrArg (fun l => l[0]?) h1
  simp only [List.getElem?_map] at h3
  have hd' : (bootRun (fun i => low2 (kval zs i)) (total s.ds) 0 s.ds)[0]? = some d := hd
  rw [hd', hd0] at h3
  simp only [Option.map_some, Option.some.injEq] at h3
  rw [h3]
  exact hn d0 hd0
section
variable {w0 w w' : World} {L : Nat → Prop} {p K : Nat} {s : AP}
theorem St.mono (h : St w0 L w p s K) {K' : Nat} (hK : K ≤ K') : St w0 L w p s K' := by
  obtain ⟨⟨F, h1, h2⟩, h3, h4, h5⟩ := h
  exact ⟨⟨F, h1.mono hK, h2⟩, h3, h4, h5⟩
theorem st_wr (h : St w0 L w p s K) (d : AD) (hd : s.ds[0]? = some d) (place : Int) (hp : 0 ≤ place ∧ place < d.n) {g c : Nat} {t : TypeId} (b : Sec) (hb : Blk w g t (bcs b.1).toArray) (hK : K < 1099511627775) :
    Calls Try.prog 14 #[.pointer (some ⟨p, 0, none⟩), .int .i64 0, .int .i64 place, .slice (some ⟨g, 0, none⟩) 64 c] w fun e w' => e = .returned (.int .i64 (wrC s)) ∧ St w0 L w' p (s.wr d place b) (K + 1) ∧ Turn (kept L) w w' := by
  obtain ⟨F, hP, hF⟩ := h.pl
  unfold wrC AP.wr
  by_cases hon : s.on = true
  · rw [if_pos hon, if_pos hon]
    by_cases h0 : s.fuse = 0
    · rw [if_pos h0, if_pos h0]
      refine (write_burn hP 0 d hd hon place hp h0 _ c).mono fun e w' ⟨he, hg⟩ => ?_
      obtain ⟨h1, h2⟩ := h.goes hF hg
      exact ⟨he, h1.mono (by omega), h2⟩
    · rw [if_neg h0, if_neg h0]
      exact st_write h 0 rfl d hd hon place hp h0 b hb hK
  · rw [if_neg hon, if_neg hon]
    have hoff : s.on = false := by simpa using hon
    refine (write_bad hP 0 place 2 (.inl ⟨by unfold refuseCode; rw [hoff]; rfl, .inl rfl⟩) _ 64 c).mono fun e w' ⟨he, hw⟩ => ?_
    subst hw
    exact ⟨he, h.mono (by omega), Turn.refl _ _⟩
theorem st_flush_off (h : St w0 L w p s K) (hl : s.ds.length = 1) (h1 : s.on = true → s.fuse = 0) (h2 : s.on = false → s.fuse = -1) :
    Calls Try.prog 16 #[.pointer (some ⟨p, 0, none⟩), .int .i64 0] w fun e w' => e = .returned (.int .i64 2) ∧ St w0 L w' p s.burn K ∧ Turn (kept L) w w' := by
  by_cases hon : s.on = true
  · exact st_flush_burn h 0 rfl _ (List.getElem?_eq_getElem (by omega)) hon (h1 hon)
  · have hoff : s.on = false := by simpa using hon
    obtain ⟨F, hP, hF⟩ := h.pl
    refine (flush_bad hP 0 2 (by unfold refuseCode; rw [hoff]; rfl) (.inl rfl)).mono fun e w' ⟨he, hw⟩ => ?_
    subst hw
    have : s.burn = s := by
      have := h2 hoff
      cases s
      simp only at hoff this
      subst hoff this
      rfl
    rw [this]
    exact ⟨he, h, Turn.refl _ _⟩
end
section
variable {w0 w : World} {L : Nat → Prop} {n K : Nat} {P : Nat → Nat} {S : Nat → AP}
theorem fam_plant (h : Fam w0 L w n P S K) {i : Nat} (hi : i < n) {pp : Nat} (hP : P i = pp) {s : AP} (hS : S i = s) : ∃ F, PlantAt w pp F s K := by
  obtain ⟨⟨F, h1, _⟩, _⟩ := h
  subst hP hS
  exact ⟨_, h1 i hi⟩
theorem fam_on (h : Fam w0 L w n P S K) {i : Nat} (hi : i < n) {pp : Nat} (hP : P i = pp) {s : AP} (hS : S i = s) {b : Bool} (hb : s.on = b) : Calls Try.prog 26 #[.pointer (some ⟨pp, 0, none⟩)] w fun e w' => e = .returned (.bool b) ∧ w = w' := by
  obtain ⟨F, hp⟩ := fam_plant h hi hP hS
  subst hb
  exact onP hp
theorem fam_steps (h : Fam w0 L w n P S K) {i : Nat} (hi : i < n) {pp : Nat} (hP : P i = pp) {s : AP} (hS : S i = s) {m : Int} (hm : s.steps = m) : Calls Try.prog 25 #[.pointer (some ⟨pp, 0, none⟩)] w fun e w' => e = .returned (.int .i64 m) ∧ w = w' := by
  obtain ⟨F, hp⟩ := fam_plant h hi hP hS
  subst hm
  exact stepsP hp
theorem off_bad {s : AP} (h : s.on = false) (dev place : Int) : badPlace s dev place 2 := .inl ⟨by unfold refuseCode; rw [h]; rfl, .inl rfl⟩
theorem fam_read_off (h : Fam w0 L w n P S K) {i : Nat} (hi : i < n) {pp : Nat} (hP : P i = pp) {s : AP} (hS : S i = s) (hoff : s.on = false) (dev place : Int) : Calls Try.prog 18 #[.pointer (some ⟨pp, 0, none⟩), .int .i64 dev, .int .i64 place] w fun e w' => e = .returned (.tuple #[.slice none 0 0, .int .i64 2]) ∧ w = w' := by
  obtain ⟨F, hp⟩ := fam_plant h hi hP hS
  exact read_bad hp dev place 2 (off_bad hoff dev place)
theorem fam_write_off (h : Fam w0 L w n P S K) {i : Nat} (hi : i < n) {pp : Nat} (hP : P i = pp) {s : AP} (hS : S i = s) (hoff : s.on = false) (dev place : Int) (a : Option Addr) (len cap : Nat) : Calls Try.prog 14 #[.pointer (some ⟨pp, 0, none⟩), .int .i64 dev, .int .i64 place, .slice a len cap] w fun e w' => e = .returned (.int .i64 2) ∧ w = w' := by
  obtain ⟨F, hp⟩ := fam_plant h hi hP hS
  exact write_bad hp dev place 2 (off_bad hoff dev place) a len cap
theorem fam_flush_off (h : Fam w0 L w n P S K) {i : Nat} (hi : i < n) {pp : Nat} (hP : P i = pp) {s : AP} (hS : S i = s) (hoff : s.on = false) (dev : Int) : Calls Try.prog 16 #[.pointer (some ⟨pp, 0, none⟩), .int .i64 dev] w fun e w' => e = .returned (.int .i64 2) ∧ w = w' := by
  obtain ⟨F, hp⟩ := fam_plant h hi hP hS
  exact flush_bad hp dev 2 (by unfold refuseCode; rw [hoff]; rfl) (.inl rfl)
theorem fam_fuse_off (h : Fam w0 L w n P S K) {i : Nat} (hi : i < n) {pp : Nat} (hP : P i = pp) {s : AP} (hS : S i = s) (hoff : s.on = false) (m : Int) (hm : -9223372036854775808 ≤ m ∧ m ≤ 9223372036854775807) : Calls Try.prog 19 #[.pointer (some ⟨pp, 0, none⟩), .int .i64 m] w fun e w' => e = .returned (.tuple #[]) ∧ Fam w0 L w' n P S K ∧ Turn (kept L) w w' := by
  obtain ⟨L', h1, h2, h3⟩ := h.at_ hi
  subst hP hS
  refine (st_fuse h2 m hm).mono fun e w' ⟨he, hs, ht⟩ => ⟨he, ?_, kept_mono h1 ht⟩
  refine h3 w' _ K S (Nat.le_refl _) hs ht ?_ fun _ _ _ => rfl
  rw [hoff]
  have : (if false = true then m else (S i).fuse) = (S i).fuse := if_neg (by decide)
  rw [this, ← hoff]
end
end Go.Proofs.Ytgdlidjjogoiaaa
