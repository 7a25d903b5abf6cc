/-
  Index: two ranges side by side are one, in plain data; [3]string as an argument. No conditions.
-/
import Derived.Test.YtmlkdkbpbleilaaIySa
namespace Go.Proofs.Ytmlkdkbpbleilaa
open Go.ChangeShapes Go.WideShapes Go.RowKit Go.Deep
open Ix
set_option linter.unusedVariables false
theorem klt_le {a b c : Key} (h : klt a b = true) (g : klt c b = false) : klt a c = true := by
  cases e : klt b c with
  | true => exact klt_tr h e
  | false =>
    have := klt_eq g e
    rw [this]
    exact h
theorem inR_def {fr to : Key} (h : to ≠ []) (p : Pr) : inR fr to p = (!klt p.1 fr && klt p.1 to) := by
  unfold inR
  rw [show (to == []) = false from by simpa using h, Bool.false_or]
theorem rng_split {a b c : Key} : ∀ {l : List Pr}, Srt l → klt b a = false → klt c b = false → b ≠ [] → c ≠ [] → l.filter (inR a c) = l.filter (inR a b) ++ l.filter (inR b c)
  | [], _, _, _, _, _ => rfl
  | p :: l, hs, hab, hbc, hb, hc => by
    obtain ⟨h1, h2⟩ := List.pairwise_cons.1 hs
    cases e : klt p.1 b with
    | true =>
      have e1 : inR b c p = false := by rw [inR_def hc, e]; rfl
      have e2 : inR a c p = inR a b p := by rw [inR_def hc, inR_def hb, e, klt_le e hbc]
      have ih := rng_split h2 hab hbc hb hc
      rw [List.filter_cons (p := inR b c), e1, List.filter_cons (p := inR a c), e2, List.filter_cons (p := inR a b), ih]
      cases inR a b p <;> rfl
    | false =>
      have ge : ∀ q ∈ p :: l, klt q.1 b = false := fun q hq => by
        rcases List.mem_cons.1 hq with rfl | hq
        · exact e
        · cases g : klt q.1 b with
          | false => rfl
          | true =>
            have := klt_tr (h1 q hq) g
            rw [e] at this
            cases this
      have e1 : (p :: l).filter (inR a b) = [] := by
        rw [List.filter_eq_nil_iff]
        intro q hq
        rw [inR_def hb, ge q hq, Bool.and_false]
        exact fun h => by cases h
      rw [e1, List.nil_append]
      refine List.filter_congr fun q hq => ?_
      rw [inR_def hc, inR_def hc, ge q hq]
      have : klt q.1 a = false := by
        cases g : klt q.1 a with
        | false => rfl
        | true =>
          have := klt_le g hab
          rw [ge q hq] at this
          cases this
      rw [this]
section
variable {H : Type} {enc : TypeId × Value → H} {P : Program} {w : World} {base : Nat} {spare : Nat → Bool} {held : Bool}
theorem open_sarr3 {t e : TypeId} {r : Reach} {b0 : Nat} {v : Value} {d : DataW H} {p : List MemPlace} (ht : P.underlying t = some (.array 3 e)) (he : P.underlying e = some .string) (hce : P.cellsOf e = 1) (hC : P.cellsOf t = 3)
    (hv : Value.okWide P w r b0 t v) (h : DataW.Trod enc P w base spare held t v d p) :
    ∃ a b c : ByteArray, v = .agg #[.string a, .string b, .string c] ∧ d = .agg [.lit (.string a.data.toList), .lit (.string b.data.toList), .lit (.string c.data.toList)] ∧ p = [] ∧ a.size ≤ maxLen ∧ b.size ≤ maxLen ∧ c.size ≤ maxLen := by
  obtain ⟨cs, rfl, hsz⟩ := okWide_array ht hv
  obtain ⟨c0, c1, c2, rfl⟩ := Go.Joins.array3 (hsz.trans hC)
  obtain ⟨fuel, hf⟩ := h
  obtain ⟨xs, m, _, hx, _, hl, hi⟩ := DataW.trod_array ht hf
  match xs, hl with
  | [y0, y1, y2], _ =>
    have h0 := hi 0 (by omega)
    have h1 := hi 1 (by omega)
    have h2 := hi 2 (by omega)
    simp [Value.cells, hce] at h0 h1 h2
    obtain ⟨a, ea, rfl, wa⟩ := DataW.trod_string he h0
    obtain ⟨b, eb, rfl, wb⟩ := DataW.trod_string he h1
    obtain ⟨c, ec, rfl, wc⟩ := DataW.trod_string he h2
    simp at ea eb ec hx
    subst ea eb ec
    exact ⟨a, b, c, rfl, hx.1, hx.2, wa, wb, wc⟩
theorem shut_sarr3 {t e : TypeId} {a b c : ByteArray} (ht : P.underlying t = some (.array 3 e)) (he : P.underlying e = some .string) (hce : P.cellsOf e = 1) (hC : P.cellsOf t = 3) (wa : a.size ≤ maxLen) (wb : b.size ≤ maxLen) (wc : c.size ≤ maxLen) :
    DataW.Trod enc P w base spare held t (.agg #[.string a, .string b, .string c]) (.agg [.lit (.string a.data.toList), .lit (.string b.data.toList), .lit (.string c.data.toList)]) [] := by
  refine ⟨2, ?_⟩
  unfold DataW.trod
  rw [ht]
  have r3 : List.range 3 = [0, 1, 2] := rfl
  simp [Value.cells, hC, hce, r3, DataW.trod, he, wa, wb, wc]
end
end Go.Proofs.Ytmlkdkbpbleilaa
