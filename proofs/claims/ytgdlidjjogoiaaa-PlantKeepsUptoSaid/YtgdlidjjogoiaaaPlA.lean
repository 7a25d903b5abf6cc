/-
  SMALL WALKS OF plant: has, refuse, refusePlace, step, Fuse, On, Steps, Len. Condition: the plant's block and its disks' block are known whole.
-/
import Derived.Test.YtgdlidjjogoiaaaMem
import Derived.Test.YtgdlidjjogoiaaaProg
import Derived.StillTailTactics
import Derived.Deep.QuietTactic
import Derived.BigQuiet
import Derived.WalkSmall
namespace Go.Proofs.Ytgdlidjjogoiaaa
open Go.RowKit
set_option linter.unusedVariables false
/-- the cells of a Plant -/
def plantCells (db n c : Nat) (on : Bool) (fuse steps : Int) : Array Value := #[.slice (some ⟨db, 0, none⟩) n c, .bool on, .int .i64 fuse, .int .i64 steps]
section
variable (p db n c : Nat) (on : Bool) (fuse steps : Int) (dev place : Int) (w : World)
theorem has_yes (hb : Blk w p 58 (plantCells db n c on fuse steps)) (h1 : 0 ≤ dev) (h2 : dev < n) :
    Calls Try.prog 45 #[.pointer (some ⟨p, 0, none⟩), .int .i64 dev] w fun e w' => e = .returned (.bool true) ∧ w = w' := by
  have h0 : w.cell? ⟨p, 0, none⟩ = some (.slice (some ⟨db, 0, none⟩) n c) := hb.cell 0
  go_enter Try.func45, Try.ntmps45
  go_wp2
  go_ret
  exact ⟨rfl, rfl⟩
theorem has_no (hb : Blk w p 58 (plantCells db n c on fuse steps)) (h : ¬ (0 ≤ dev ∧ dev < n)) :
    Calls Try.prog 45 #[.pointer (some ⟨p, 0, none⟩), .int .i64 dev] w fun e w' => e = .returned (.bool false) ∧ w = w' := by
  have h0 : w.cell? ⟨p, 0, none⟩ = some (.slice (some ⟨db, 0, none⟩) n c) := hb.cell 0
  by_cases h1 : 0 ≤ dev
  · have h2 : (n : Int) ≤ dev := by omega
    clear h
    go_enter Try.func45, Try.ntmps45
    go_wp2
    go_ret
    exact ⟨ret_bool (by simp; omega), rfl⟩
  · have h1 : dev < 0 := by omega
    clear h
    go_enter Try.func45, Try.ntmps45
    go_wp2
    go_ret
    exact ⟨rfl, rfl⟩
/-- what refuse answers -/
def refuseCode (on : Bool) (n : Nat) (dev : Int) : Int := if on then (if 0 ≤ dev ∧ dev < n then 0 else 31) else 2
theorem refuse_any (hb : Blk w p 58 (plantCells db n c on fuse steps)) :
    Calls Try.prog 34 #[.pointer (some ⟨p, 0, none⟩), .int .i64 dev] w fun e w' => e = .returned (.int .i64 (refuseCode on n dev)) ∧ w = w' := by
  have h1 : w.cell? ⟨p, 1, none⟩ = some (.bool on) := hb.cell 1
  cases on
  · go_enter Try.func34, Try.ntmps34
    go_wp2_with fail
    go_ret
    exact ⟨rfl, rfl⟩
  · by_cases h : 0 ≤ dev ∧ dev < n
    · go_enter Try.func34, Try.ntmps34
      go_wp2_with (go_at_call 45; refine (has_yes p db n c _ fuse steps dev _ hb h.1 h.2).mono ?_; rintro e w' ⟨rfl, rfl⟩)
      go_ret
      exact ⟨by simp [refuseCode, h], rfl⟩
    · go_enter Try.func34, Try.ntmps34
      go_wp2_with (go_at_call 45; refine (has_no p db n c _ fuse steps dev _ hb h).mono ?_; rintro e w' ⟨rfl, rfl⟩)
      go_ret
      exact ⟨by simp [refuseCode, h], rfl⟩
theorem refusePlace_bad (hb : Blk w p 58 (plantCells db n c on fuse steps)) (k : Int) (hk : refuseCode on n dev = k) (h : k = 2 ∨ k = 31) :
    Calls Try.prog 29 #[.pointer (some ⟨p, 0, none⟩), .int .i64 dev, .int .i64 place] w fun e w' => e = .returned (.int .i64 k) ∧ w = w' := by
  have hq := fun w => refuse_any p db n c on fuse steps dev w
  rw [hk] at hq
  have Hq := Lib.hid hq
  clear hq hk
  rcases h with rfl | rfl
  all_goals
    go_enter Try.func29, Try.ntmps29
    go_wp2_with (go_at_call 34; refine (Hq.out _ hb).mono ?_; rintro e w' ⟨rfl, rfl⟩)
    go_ret
    exact ⟨rfl, rfl⟩
theorem refusePlace_good (C : Array Value) (s : Int) (dv : Nat) (hb : Blk w p 58 (plantCells db n c true fuse steps)) (hd : Blk w db 62 C) (h2 : dv < n)
    (hs : C[dv * 4]? = some (.int .i64 s)) (hn : n ≤ 4) :
    Calls Try.prog 29 #[.pointer (some ⟨p, 0, none⟩), .int .i64 (dv : Int), .int .i64 place] w fun e w' => e = .returned (.int .i64 (if 0 ≤ place ∧ place < s then 0 else 31)) ∧ w = w' := by
  have h0 : w.cell? ⟨p, 0, none⟩ = some (.slice (some ⟨db, 0, none⟩) n c) := hb.cell 0
  have h4 : w.cell? ⟨db, dv * 4, none⟩ = some (.int .i64 s) := (hd.cell _).trans hs
  have hq : ∀ w, Blk w p 58 (plantCells db n c true fuse steps) → Calls Try.prog 34 #[.pointer (some ⟨p, 0, none⟩), .int .i64 (dv : Int)] w fun e w' => e = .returned (.int .i64 0) ∧ w = w' := by
    intro w hb
    have := refuse_any p db n c true fuse steps dv w hb
    rw [show refuseCode true n dv = 0 from by simp [refuseCode, h2]] at this
    exact this
  have Hq := Lib.hid hq
  clear hq
  have Hs := Lib.hid hs
  clear hs
  have g1 : (0 : Int) ≤ (dv : Int) := by omega
  have g2 : (dv : Int) < (n : Int) := by omega
  by_cases hlo : 0 ≤ place
  · by_cases hhi : place < s
    · rw [if_pos ⟨hlo, hhi⟩]
      go_enter Try.func29, Try.ntmps29
      go_wp2_with (go_at_call 34; refine (Hq.out _ hb).mono ?_; rintro e w' ⟨rfl, rfl⟩)
      go_ret
      exact ⟨rfl, rfl⟩
    · rw [if_neg (by omega)]
      have hhi : s ≤ place := by omega
      go_enter Try.func29, Try.ntmps29
      go_wp2_with (go_at_call 34; refine (Hq.out _ hb).mono ?_; rintro e w' ⟨rfl, rfl⟩)
      go_ret
      exact ⟨rfl, rfl⟩
  · rw [if_neg (by omega)]
    have hlo : place < 0 := by omega
    go_enter Try.func29, Try.ntmps29
    go_wp2_with (go_at_call 34; refine (Hq.out _ hb).mono ?_; rintro e w' ⟨rfl, rfl⟩)
    go_ret
    exact ⟨rfl, rfl⟩
/-- what a step makes of the fuse -/
def burnt (fuse : Int) : Int := if 0 < fuse then fuse - 1 else fuse
theorem step_burn (hb : Blk w p 58 (plantCells db n c on 0 steps)) :
    Calls Try.prog 30 #[.pointer (some ⟨p, 0, none⟩)] w fun e w' => e = .returned (.int .i64 2) ∧ Blk w' p 58 (plantCells db n c false (-1) steps) ∧ Turn (only p) w w' := by
  have h1 : w.cell? ⟨p, 1, none⟩ = some (.bool on) := hb.cell 1
  have h2 : w.cell? ⟨p, 2, none⟩ = some (.int .i64 0) := hb.cell 2
  have f1 := hb.frozen 1
  have f2 := hb.frozen 2
  go_enter Try.func30, Try.ntmps30
  go_wp2
  go_ret
  exact ⟨rfl, (hb.set_ 1 (.bool false)).set_ 2 (.int .i64 (-1)), ((Turn.refl _ _).at_ _ _).at_ _ _⟩
theorem step_on (hb : Blk w p 58 (plantCells db n c on fuse steps)) (h0 : fuse ≠ 0) (hlo : -9223372036854775808 ≤ fuse) (hhi : fuse ≤ 9223372036854775807) (s0 : 0 ≤ steps) (s1 : steps < 1099511627776) :
    Calls Try.prog 30 #[.pointer (some ⟨p, 0, none⟩)] w fun e w' => e = .returned (.int .i64 0) ∧ Blk w' p 58 (plantCells db n c on (burnt fuse) (steps + 1)) ∧ Turn (only p) w w' := by
  have h2 : w.cell? ⟨p, 2, none⟩ = some (.int .i64 fuse) := hb.cell 2
  have h3 : w.cell? ⟨p, 3, none⟩ = some (.int .i64 steps) := hb.cell 3
  have f2 := hb.frozen 2
  have f3 := hb.frozen 3
  have hd : (fuse == 0) = false := by simpa using h0
  by_cases h : 0 < fuse
  · rw [show burnt fuse = fuse - 1 from by simp [burnt, h]]
    clear h0
    go_enter Try.func30, Try.ntmps30
    go_wp2
    go_ret
    exact ⟨rfl, (hb.set_ 2 (.int .i64 (fuse - 1))).set_ 3 (.int .i64 (steps + 1)), ((Turn.refl _ _).at_ _ _).at_ _ _⟩
  · rw [show burnt fuse = fuse from by simp [burnt, h]]
    have h : fuse < 0 := by omega
    clear h0
    go_enter Try.func30, Try.ntmps30
    go_wp2
    go_ret
    exact ⟨rfl, hb.set_ 3 (.int .i64 (steps + 1)), (Turn.refl _ _).at_ _ _⟩
theorem fuse_any (m : Int) (hb : Blk w p 58 (plantCells db n c on fuse steps)) :
    Calls Try.prog 19 #[.pointer (some ⟨p, 0, none⟩), .int .i64 m] w fun e w' => e = .returned (.tuple #[]) ∧ Blk w' p 58 (plantCells db n c on (if on then m else fuse) steps) ∧ Turn (only p) w w' := by
  have h1 : w.cell? ⟨p, 1, none⟩ = some (.bool on) := hb.cell 1
  have h2 : w.cell? ⟨p, 2, none⟩ = some (.int .i64 fuse) := hb.cell 2
  have f2 := hb.frozen 2
  cases on
  · go_enter Try.func19, Try.ntmps19
    go_wp2
    go_end0
    exact ⟨rfl, hb, Turn.refl _ _⟩
  · go_enter Try.func19, Try.ntmps19
    go_wp2
    go_end0
    exact ⟨rfl, hb.set_ 2 (.int .i64 m), (Turn.refl _ _).at_ _ _⟩
theorem on_any (hb : Blk w p 58 (plantCells db n c on fuse steps)) :
    Calls Try.prog 26 #[.pointer (some ⟨p, 0, none⟩)] w fun e w' => e = .returned (.bool on) ∧ w = w' := by
  have h1 : w.cell? ⟨p, 1, none⟩ = some (.bool on) := hb.cell 1
  go_enter Try.func26, Try.ntmps26
  go_wp2
  go_ret
  exact ⟨rfl, rfl⟩
theorem steps_any (hb : Blk w p 58 (plantCells db n c on fuse steps)) :
    Calls Try.prog 25 #[.pointer (some ⟨p, 0, none⟩)] w fun e w' => e = .returned (.int .i64 steps) ∧ w = w' := by
  have h1 : w.cell? ⟨p, 3, none⟩ = some (.int .i64 steps) := hb.cell 3
  go_enter Try.func25, Try.ntmps25
  go_wp2
  go_ret
  exact ⟨rfl, rfl⟩
theorem len_bad (hb : Blk w p 58 (plantCells db n c on fuse steps)) (h : ¬ (0 ≤ dev ∧ dev < n)) :
    Calls Try.prog 42 #[.pointer (some ⟨p, 0, none⟩), .int .i64 dev] w fun e w' => e = .returned (.tuple #[.int .i64 0, .int .i64 31]) ∧ w = w' := by
  go_enter Try.func42, Try.ntmps42
  go_wp2_with (go_at_call 45; refine (has_no p db n c _ fuse steps dev _ hb h).mono ?_; rintro e w' ⟨rfl, rfl⟩)
  go_ret2
  exact ⟨rfl, rfl⟩
theorem len_good (C : Array Value) (s : Int) (dv : Nat) (hb : Blk w p 58 (plantCells db n c on fuse steps)) (hd : Blk w db 62 C) (h2 : dv < n)
    (hs : C[dv * 4]? = some (.int .i64 s)) (hn : n ≤ 4) :
    Calls Try.prog 42 #[.pointer (some ⟨p, 0, none⟩), .int .i64 (dv : Int)] w fun e w' => e = .returned (.tuple #[.int .i64 s, .int .i64 0]) ∧ w = w' := by
  have h0 : w.cell? ⟨p, 0, none⟩ = some (.slice (some ⟨db, 0, none⟩) n c) := hb.cell 0
  have h4 : w.cell? ⟨db, dv * 4, none⟩ = some (.int .i64 s) := (hd.cell _).trans hs
  clear hs
  have g1 : (0 : Int) ≤ (dv : Int) := by omega
  have g2 : (dv : Int) < (n : Int) := by omega
  go_enter Try.func42, Try.ntmps42
  go_wp2_with (go_at_call 45; refine (has_yes p db n c _ fuse steps dv _ hb g1 g2).mono ?_; rintro e w' ⟨rfl, rfl⟩)
  go_ret2
  exact ⟨rfl, rfl⟩
end
end Go.Proofs.Ytgdlidjjogoiaaa
