/-
  field's Amount. Condition: where the text is empty, the library's ErrSyntax reads as some error.
-/
import Derived.Test.YtgdlidjjogoiaaaGreatDoorFdL
namespace Go.Proofs.YtgdlidjjogoiaaaGreatDoor
open Go.RowKit
open Fdd
set_option linter.unusedVariables false
theorem digitVal_dec {b : UInt8} (h : b ∈ dec) : Lib.digitVal b = some (b.toNat - 48) ∧ b.toNat - 48 < 10 ∧ b ≠ 45 ∧ b ≠ 43 ∧ 48 ≤ b.toNat ∧ b.toNat ≤ 57 := by
  simp only [dec, List.mem_cons, List.not_mem_nil, or_false] at h
  rcases h with rfl | rfl | rfl | rfl | rfl | rfl | rfl | rfl | rfl | rfl <;> decide
theorem decFrom_val : ∀ (l : List UInt8) (acc : Nat), (∀ b ∈ l, b ∈ dec) → Lib.decFrom acc l = some (l.foldl (fun a c => a * 10 + (c.toNat - 48)) acc)
  | [], acc, _ => rfl
  | b :: r, acc, h => by
    unfold Lib.decFrom
    rw [(digitVal_dec (h b (List.mem_cons_self ..))).1]
    exact decFrom_val r _ fun x hx => h x (List.mem_cons_of_mem _ hx)
theorem atoi_val {t : List UInt8} (h : onlyOf t dec = true) (h0 : t ≠ []) : Lib.atoi t = some (val t : Int) := by
  cases t with
  | nil => exact absurd rfl h0
  | cons b r =>
    have hb := digitVal_dec (onlyOf_mem h (List.mem_cons_self ..))
    have h1 : (b == 45) = false := by simpa using hb.2.2.1
    have h2 : (b == 43) = false := by simpa using hb.2.2.2.1
    unfold Lib.atoi
    simp only [h1, h2, Bool.false_eq_true, if_false]
    unfold Lib.decNat
    rw [show (b :: r).isEmpty = false from rfl]
    simp only [Bool.false_eq_true, if_false]
    rw [decFrom_val (b :: r) 0 fun x hx => onlyOf_mem h hx]
    rfl
def amountOf (t : List UInt8) : Int × Int := if t.length ≤ 18 ∧ onlyOf t dec = true ∧ t ≠ [] then ((val t : Int), 0) else (0, 41)
def ErrT (w : World) : Prop := ∃ te pe, w.cell? ⟨1, 0, none⟩ = some (.iface te pe)
theorem ErrT.turn {w w' : World} (h : ErrT w) (ht : Turn nowhere w w') : ErrT w' := by
  obtain ⟨te, pe, h⟩ := h
  exact ⟨te, pe, by rw [ht.cell (World.block_lt_of_cell? _ _ h) (fun e => e)]; exact h⟩
theorem dec_ascii : ascii dec := ascii_of (by decide)
set_option maxRecDepth 20000 in
theorem amount_walk {t : List UInt8} (w : World) (hE : t = [] → ErrT w) :
    Calls Tryz.prog 12 #[strV t] w fun e w' => e = .returned (.tuple #[.int .i64 (amountOf t).1, .int .i64 (amountOf t).2]) ∧ Turn nowhere w w' := by
  have hdef : amountOf t = if t.length ≤ 18 ∧ onlyOf t dec = true ∧ t ≠ [] then ((val t : Int), 0) else (0, 41) := rfl
  have HD := Lib.hid hdef
  have HE := Lib.hid hE
  clear hdef hE
  unfold strV
  go_enter Tryz.func12, Tryz.ntmps12
  by_cases h1 : t.length ≤ 18
  · have HL := Lib.hid h1
    have y1 : ¬ ((18 : Int) < (t.length : Int)) := by omega
    clear h1
    have how := only_walk t dec (by decide) dec_ascii w
    cases hon : onlyOf t dec with
    | false =>
      rw [hon] at how
      have HX := Lib.hid (show amountOf t = (0, 41) from by
        rw [HD.out, if_neg]
        intro h
        rw [hon] at h
        exact absurd h.2.1 (by decide))
      clear hon HD
      go_wp2_with (go_at_call 29; refine how.mono ?_; rintro e w1 ⟨rfl, ht⟩)
      go_ret2
      rw [HX.out]
      exact ⟨rfl, ht⟩
    | true =>
      rw [hon] at how
      have HON := Lib.hid hon
      clear hon
      go_upto_region 3 with (go_at_call 29; refine how.mono ?_; rintro e w1 ⟨rfl, ht⟩)
      have HT := Lib.hid ht
      clear ht how
      by_cases h0 : t = []
      · have HX := Lib.hid (show amountOf t = (0, 41) from by rw [HD.out, if_neg (by intro h; exact h.2.2 h0)])
        obtain ⟨te, pe, hev⟩ := (HE.out h0).turn HT.out
        have hat := Any.strconv_Atoi_err Tryz.laysC172 ⟨t.toArray⟩ (by rw [str_size]; exact HL.out) (by rw [h0]; rfl) _ w1 hev (.inr ⟨te, pe, rfl⟩)
        clear h0 hev
        go_wp2_with (go_at_call 30; refine hat.mono ?_; rintro e w2 ⟨N, rfl, _, _, hb⟩)
        go_ret2
        rw [HX.out]
        exact ⟨rfl, HT.out.trans (Turn.of_below hb (Nat.le_refl _)) (fun _ _ e => e)⟩
      · have HX := Lib.hid (show amountOf t = ((val t : Int), 0) from by rw [HD.out, if_pos ⟨HL.out, HON.out, h0⟩])
        have hat := Any.strconv_Atoi Tryz.lays172 ⟨t.toArray⟩ (val t : Int) (by rw [str_size]; exact HL.out) (atoi_val HON.out h0) w1
        clear h0
        go_wp2_with (go_at_call 30; refine hat.mono ?_; rintro e w2 ⟨rfl, bt, rfl⟩)
        go_ret2
        rw [HX.out]
        exact ⟨rfl, HT.out.trans (Turn.of_below (Lib.bytesWorld_below _ _ _) (Nat.le_refl _)) (fun _ _ e => e)⟩
  · have HX := Lib.hid (show amountOf t = (0, 41) from by rw [HD.out, if_neg (by intro h; exact h1 h.1)])
    have y1 : (18 : Int) < (t.length : Int) := by omega
    go_wp2_with fail
    go_ret2
    rw [HX.out]
    exact ⟨rfl, Turn.refl _ _⟩
end Go.Proofs.YtgdlidjjogoiaaaGreatDoor
