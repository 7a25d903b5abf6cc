/-
  Ledgers in plain data: entries, their sums, what a posting makes of balances; sums of 128 bits, and by two halves. No conditions; nothing of the program.
-/
import Derived.Test.YthoefjaapjaeeaaMnM
namespace Go.Proofs.Ythoefjaapjaeeaa.Lg
set_option linter.unusedVariables false
open Mn (in64)
abbrev Ent := Int × Int
/-- the amounts of all -/
def tot (es : List Ent) : Int := (es.map (·.2)).sum
/-- those of an account -/
def of (a : Int) (es : List Ent) : Int := (es.map fun e => if e.1 = a then e.2 else 0).sum
theorem tot_nil : tot [] = 0 := rfl
theorem of_nil (a : Int) : of a [] = 0 := rfl
theorem tot_cons (e : Ent) (es : List Ent) : tot (e :: es) = e.2 + tot es := by simp [tot]
theorem of_cons (a : Int) (e : Ent) (es : List Ent) : of a (e :: es) = (if e.1 = a then e.2 else 0) + of a es := by simp [of]
theorem tot_app (x y : List Ent) : tot (x ++ y) = tot x + tot y := by simp [tot]
theorem of_app (a : Int) (x y : List Ent) : of a (x ++ y) = of a x + of a y := by simp [of]
theorem tot_snoc (es : List Ent) (e : Ent) : tot (es ++ [e]) = tot es + e.2 := by simp [tot]
theorem of_snoc (a : Int) (es : List Ent) (e : Ent) : of a (es ++ [e]) = of a es + (if e.1 = a then e.2 else 0) := by simp [of]
theorem tot_rev : ∀ es : List Ent, tot es.reverse = tot es
  | [] => rfl
  | e :: es => by rw [List.reverse_cons, tot_snoc, tot_cons, tot_rev es]; omega
theorem of_rev (a : Int) : ∀ es : List Ent, of a es.reverse = of a es
  | [] => rfl
  | e :: es => by rw [List.reverse_cons, of_snoc, of_cons, of_rev a es]; omega
theorem take_snoc {α : Type} {l : List α} {i : Nat} {x : α} (h : l[i]? = some x) : l.take (i + 1) = l.take i ++ [x] := by
  rw [List.take_add_one, h]; rfl
/-- is each of an account -/
def accB (n : Int) (es : List Ent) : Bool := es.all fun e => decide (0 ≤ e.1) && decide (e.1 < n)
theorem accB_iff {n : Int} {es : List Ent} : accB n es = true ↔ ∀ e ∈ es, 0 ≤ e.1 ∧ e.1 < n := by simp [accB]
theorem of_none {a : Int} : ∀ {es : List Ent}, (∀ e ∈ es, e.1 ≠ a) → of a es = 0
  | [], _ => rfl
  | e :: es, h => by
    rw [of_cons, if_neg (h e (List.mem_cons_self ..)), of_none (fun x hx => h x (List.mem_cons_of_mem _ hx))]; rfl
def fitB (n : Nat) (b : Nat → Int) (es : List Ent) : Bool := (List.range n).all fun a => decide (in64 (b a + of (a : Int) es))
theorem fitB_iff {n : Nat} {b : Nat → Int} {es : List Ent} : fitB n b es = true ↔ ∀ a, a < n → in64 (b a + of (a : Int) es) := by simp [fitB]
/-- what a posting is answered, and what it makes -/
def postE (n : Nat) (b : Nat → Int) (es : List Ent) : Int := if accB n es = false then 121 else if tot es ≠ 0 then 120 else if fitB n b es = false then 100 else 0
def postB (n : Nat) (b : Nat → Int) (es : List Ent) : Nat → Int := if postE n b es = 0 then fun a => b a + of (a : Int) es else b
/-- a ledger's balances: none beyond the accounts, each of 64 bits -/
def Okb (n : Nat) (b : Nat → Int) : Prop := (∀ a, in64 (b a)) ∧ ∀ a, n ≤ a → b a = 0
theorem okb_zero (n : Nat) : Okb n fun _ => 0 := ⟨fun _ => by show in64 0; decide, fun _ _ => rfl⟩
theorem postE_ok {n : Nat} {b : Nat → Int} {es : List Ent} : postE n b es = 0 ↔ accB n es = true ∧ tot es = 0 ∧ fitB n b es = true := by
  unfold postE
  by_cases h1 : accB n es = false
  · rw [if_pos h1]; simp [h1]
  · rw [if_neg h1]
    by_cases h2 : tot es = 0
    · rw [if_neg (fun h => h h2)]
      by_cases h3 : fitB n b es = false
      · rw [if_pos h3]; simp [h3]
      · rw [if_neg h3]; simp [h2]; exact ⟨by simpa using h1, by simpa using h3⟩
    · rw [if_pos h2]; simp [h2]
theorem of_beyond {n : Nat} {es : List Ent} (h : accB n es = true) {a : Nat} (ha : n ≤ a) : of (a : Int) es = 0 :=
  of_none fun e he => by have := (accB_iff.1 h e he).2; omega
theorem okb_post {n : Nat} {b : Nat → Int} (h : Okb n b) (es : List Ent) : Okb n (postB n b es) := by
  unfold postB
  split
  · rename_i h0
    obtain ⟨h1, h2, h3⟩ := postE_ok.1 h0
    refine ⟨fun a => ?_, fun a ha => ?_⟩
    · by_cases ha : a < n
      · exact fitB_iff.1 h3 a ha
      · show in64 (b a + of (a : Int) es)
        rw [of_beyond h1 (a := a) (by omega), h.2 a (by omega)]; decide
    · show b a + of (a : Int) es = 0
      rw [of_beyond h1 ha, h.2 a ha]; rfl
  · exact h
theorem postB_bad {n : Nat} {b : Nat → Int} {es : List Ent} (h : postE n b es ≠ 0) : postB n b es = b := if_neg h
theorem postB_ok {n : Nat} {b : Nat → Int} {es : List Ent} (h : postE n b es = 0) : postB n b es = fun a => b a + of (a : Int) es := if_pos h
/-- the sum of all balances -/
def sumB (n : Nat) (b : Nat → Int) : Int := ((List.range n).map b).sum
theorem sumB_succ (n : Nat) (b : Nat → Int) : sumB (n + 1) b = sumB n b + b n := by simp [sumB, List.range_succ]
theorem sumB_add (n : Nat) (b c : Nat → Int) : sumB n (fun a => b a + c a) = sumB n b + sumB n c := by
  induction n with
  | zero => rfl
  | succ n ih => rw [sumB_succ, sumB_succ, sumB_succ, ih]; omega
theorem sumB_zero (n : Nat) : sumB n (fun _ => 0) = 0 := by
  induction n with
  | zero => rfl
  | succ n ih => rw [sumB_succ, ih]; rfl
theorem sumB_at (n : Nat) (x v : Int) : sumB n (fun a => if x = (a : Int) then v else 0) = if 0 ≤ x ∧ x < n then v else 0 := by
  induction n with
  | zero => rw [if_neg (by omega)]; rfl
  | succ n ih =>
    rw [sumB_succ, ih]
    by_cases h1 : x = (n : Int)
    · rw [if_pos h1, if_neg (by omega), if_pos (by omega)]; omega
    · rw [if_neg h1]
      by_cases h2 : 0 ≤ x ∧ x < n
      · rw [if_pos h2, if_pos (by omega)]; omega
      · rw [if_neg h2, if_neg (by omega)]; rfl
theorem sumB_of {n : Nat} : ∀ {es : List Ent}, accB n es = true → sumB n (fun a => of (a : Int) es) = tot es
  | [], _ => sumB_zero n
  | e :: es, h => by
    have h := accB_iff.1 h
    have e1 : (fun a : Nat => of (a : Int) (e :: es)) = fun a : Nat => (if e.1 = (a : Int) then e.2 else 0) + of (a : Int) es := by funext a; rw [of_cons]
    rw [e1, sumB_add, sumB_at, if_pos (h e (List.mem_cons_self ..)), sumB_of (accB_iff.2 fun x hx => h x (List.mem_cons_of_mem _ hx)), tot_cons]
theorem sumB_post {n : Nat} {b : Nat → Int} (es : List Ent) (h : sumB n b = 0) : sumB n (postB n b es) = 0 := by
  by_cases h0 : postE n b es = 0
  · obtain ⟨h1, h2, _⟩ := postE_ok.1 h0
    rw [postB_ok h0, sumB_add, h, sumB_of h1, h2]; rfl
  · rw [postB_bad h0, h]
/-- 2^64 -/
abbrev m64 : Int := 18446744073709551616
def wr (n : Int) : Int := (n + 9223372036854775808) % 18446744073709551616 - 9223372036854775808
/-- a sum of 128 bits: what is above 64, and what is below -/
def exH (z : Int) : Int := wr (z / 18446744073709551616)
def exL (z : Int) : Int := z % 18446744073709551616
theorem exL_lt (z : Int) : 0 ≤ exL z ∧ exL z < 18446744073709551616 := by unfold exL; omega
theorem exH_add (z n : Int) (hn : in64 n) : wr (wr (exH z + (if n < 0 then -1 else 0)) + (exL z + n % 18446744073709551616) / 18446744073709551616) = exH (z + n) := by
  unfold exH exL wr in64 at *
  split <;> omega
theorem exL_add (z n : Int) : (exL z + n % 18446744073709551616) % 18446744073709551616 = exL (z + n) := by unfold exL; omega
/-- far less than 128 bits -/
def Small (z : Int) : Prop := -(649037107316853453566312041152512 : Int) ≤ z ∧ z ≤ 649037107316853453566312041152512
theorem ex_zero {z : Int} (h : Small z) : (exH z = 0 ∧ exL z = 0) ↔ z = 0 := by
  unfold Small exH exL wr at *
  omega
theorem ex_fits {z : Int} (h : Small z) : exH z = (if wr (exL z) < 0 then -1 else 0) ↔ in64 z := by
  unfold Small exH exL wr in64 at *
  split <;> omega
theorem ex_val {z : Int} (h : in64 z) : wr (exL z) = z := by unfold exL wr in64 at *; omega
theorem tot_small : ∀ {es : List Ent} {k : Nat}, (∀ e ∈ es, in64 e.2) → es.length ≤ k → -(9223372036854775808 * (k : Int)) ≤ tot es ∧ tot es ≤ 9223372036854775808 * (k : Int)
  | [], k, _, _ => by rw [tot_nil]; omega
  | e :: es, 0, _, h => by simp at h
  | e :: es, k + 1, h, hk => by
    have h1 := h e (List.mem_cons_self ..)
    have h2 := tot_small (es := es) (k := k) (fun x hx => h x (List.mem_cons_of_mem _ hx)) (by simpa using hk)
    unfold in64 at h1
    rw [tot_cons]; omega
theorem of_small {a : Int} : ∀ {es : List Ent} {k : Nat}, (∀ e ∈ es, in64 e.2) → es.length ≤ k → -(9223372036854775808 * (k : Int)) ≤ of a es ∧ of a es ≤ 9223372036854775808 * (k : Int)
  | [], k, _, _ => by rw [of_nil]; omega
  | e :: es, 0, _, h => by simp at h
  | e :: es, k + 1, h, hk => by
    have h1 := h e (List.mem_cons_self ..)
    have h2 := of_small (a := a) (es := es) (k := k) (fun x hx => h x (List.mem_cons_of_mem _ hx)) (by simpa using hk)
    unfold in64 at h1
    rw [of_cons]
    split <;> omega
theorem small_tot {es : List Ent} (h : ∀ e ∈ es, in64 e.2) (hl : es.length ≤ 70368744177664) : Small (tot es) := by
  have := tot_small h hl
  unfold Small; omega
theorem small_bal {es : List Ent} {b : Int} (hb : in64 b) (h : ∀ e ∈ es, in64 e.2) (hl : es.length ≤ 70368744177663) (a : Int) : Small (b + of a es) := by
  have := of_small (a := a) h hl
  unfold Small in64 at *; omega
/-- by two halves: the one above 32 bits may be of 64 bits -/
def wiH (z : Int) : Int := z / 4294967296
def wiL (z : Int) : Int := z % 4294967296
def Mid (z : Int) : Prop := -(19807040628566084398385987584 : Int) ≤ z ∧ z ≤ 19807040628566084398385987584
theorem wi_zero (z : Int) : (wiH z = 0 ∧ wiL z = 0) ↔ z = 0 := by unfold wiH wiL; omega
theorem mid_tot {es : List Ent} (h : ∀ e ∈ es, in64 e.2) (hl : es.length ≤ 1048576) : Mid (tot es) := by
  have := tot_small h hl
  unfold Mid; omega
theorem mid_bal {es : List Ent} {b : Int} (hb : in64 b) (h : ∀ e ∈ es, in64 e.2) (hl : es.length ≤ 1048576) (a : Int) : Mid (b + of a es) := by
  have := of_small (a := a) h hl
  unfold Mid in64 at *; omega
/-- a payment -/
def payL (m acq iss amt inter fee : Int) : List Ent := [(iss, -amt), (acq, amt), (acq, -inter), (iss, inter), (acq, -fee), (m, fee)]
def payF (m acq iss amt inter fee : Int) : List Ent := (payL m acq iss amt inter fee).filter fun e => e.2 != 0
theorem tot_filter : ∀ es : List Ent, tot (es.filter fun e => e.2 != 0) = tot es
  | [] => rfl
  | e :: es => by
    rw [List.filter_cons, tot_cons]
    by_cases h : e.2 = 0
    · simp only [h]; rw [if_neg (by decide), tot_filter es]; omega
    · rw [if_pos (by simpa using h), tot_cons, tot_filter es]
theorem tot_pay (m acq iss amt inter fee : Int) : tot (payF m acq iss amt inter fee) = 0 := by
  unfold payF
  rw [tot_filter]
  simp only [payL, tot_cons, tot_nil]
  omega
/-- each amount's sign turned -/
def turnL (es : List Ent) : List Ent := es.map fun e => (e.1, -e.2)
def turnE (es : List Ent) : Int := if es.any (fun e => decide (e.2 = -9223372036854775808)) then 100 else 0
theorem tot_turn : ∀ es : List Ent, tot (turnL es) = -tot es
  | [] => rfl
  | e :: es => by
    have := tot_turn es
    unfold turnL at *
    rw [List.map_cons, tot_cons, tot_cons, this]; omega
theorem of_turn (a : Int) : ∀ es : List Ent, of a (turnL es) = -of a es
  | [] => rfl
  | e :: es => by
    have := of_turn a es
    unfold turnL at *
    rw [List.map_cons, of_cons, of_cons, this]
    dsimp only
    split <;> omega
theorem acc_turn {n : Int} {es : List Ent} (h : accB n es = true) : accB n (turnL es) = true := accB_iff.2 fun e he => by
  obtain ⟨x, hx, rfl⟩ := List.mem_map.1 he
  exact accB_iff.1 h x hx
/-- what was posted is undone -/
theorem undo {n : Nat} {b : Nat → Int} {es : List Ent} (hb : Okb n b) (h : postE n b es = 0) : postE n (postB n b es) (turnL es) = 0 ∧ postB n (postB n b es) (turnL es) = b := by
  obtain ⟨h1, h2, h3⟩ := postE_ok.1 h
  have e : (fun a : Nat => postB n b es a + of (a : Int) (turnL es)) = b := by
    funext a
    rw [postB_ok h, of_turn]; dsimp only; omega
  have h0 : postE n (postB n b es) (turnL es) = 0 := postE_ok.2 ⟨acc_turn h1, by rw [tot_turn, h2]; rfl, fitB_iff.2 fun a _ => by rw [show postB n b es a + of (a : Int) (turnL es) = b a from congrFun e a]; exact hb.1 a⟩
  exact ⟨h0, by rw [postB_ok h0]; exact e⟩
/-- a and then b, or both turned round at once -/
theorem order {n : Nat} {x y : List Ent} (h1 : postE n (fun _ => 0) x = 0) (h2 : postE n (postB n (fun _ => 0) x) y = 0) : postE n (fun _ => 0) (x ++ y).reverse = 0 ∧ postB n (fun _ => 0) (x ++ y).reverse = postB n (postB n (fun _ => 0) x) y := by
  obtain ⟨a1, a2, a3⟩ := postE_ok.1 h1
  obtain ⟨b1, b2, b3⟩ := postE_ok.1 h2
  have e : (fun a : Nat => (0 : Int) + of (a : Int) (x ++ y).reverse) = postB n (postB n (fun _ => 0) x) y := by
    rw [postB_ok h2, postB_ok h1]
    funext a
    rw [of_rev, of_app]; dsimp only; omega
  have h0 : postE n (fun _ => 0) (x ++ y).reverse = 0 := postE_ok.2 ⟨accB_iff.2 fun e he => by
    rw [List.mem_reverse, List.mem_append] at he
    rcases he with he | he
    · exact accB_iff.1 a1 e he
    · exact accB_iff.1 b1 e he, by rw [tot_rev, tot_app, a2, b2]; rfl, fitB_iff.2 fun a ha => by
    rw [show (0 : Int) + of (a : Int) (x ++ y).reverse = postB n (postB n (fun _ => 0) x) y a from congrFun e a, postB_ok h2]
    exact fitB_iff.1 b3 a ha⟩
  exact ⟨h0, by rw [postB_ok h0]; exact e⟩
end Go.Proofs.Ythoefjaapjaeeaa.Lg
