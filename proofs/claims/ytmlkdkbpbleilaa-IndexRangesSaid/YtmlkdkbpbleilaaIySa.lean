/-
  Arguments that are an array of two strings, or a slice of strings: opened and shut. No conditions.
-/
import Derived.SliceStrings
import Derived.Test.YtmlkdkbpbleilaaArr2
import Derived.Test.YtmlkdkbpbleilaaIyQ
namespace Go.Proofs.Ytmlkdkbpbleilaa
open Go.ChangeShapes Go.WideShapes Go.RowKit Go.Deep
set_option linter.unusedVariables false
section
variable {H : Type} {enc : TypeId × Value → H} {P : Program} {w : World} {base : Nat} {spare : Nat → Bool} {held : Bool}
theorem open_sarr2 {t e : TypeId} {r : Reach} {b0 : Nat} {v : Value} {d : DataW H} {p : List MemPlace} (ht : P.underlying t = some (.array 2 e)) (he : P.underlying e = some .string) (hce : P.cellsOf e = 1) (hC : P.cellsOf t = 2)
    (hv : Value.okWide P w r b0 t v) (h : DataW.Trod enc P w base spare held t v d p) :
    ∃ a b : ByteArray, v = .agg #[.string a, .string b] ∧ d = .agg [.lit (.string a.data.toList), .lit (.string b.data.toList)] ∧ p = [] ∧ a.size ≤ maxLen ∧ b.size ≤ maxLen := by
  obtain ⟨cs, rfl, hsz⟩ := okWide_array ht hv
  obtain ⟨c0, c1, rfl⟩ := Go.Joins.array2 (hsz.trans hC)
  obtain ⟨fuel, hf⟩ := h
  obtain ⟨xs, m, _, hx, _, hl, hi⟩ := DataW.trod_array ht hf
  match xs, hl with
  | [y0, y1], _ =>
    have h0 := hi 0 (by omega)
    have h1 := hi 1 (by omega)
    simp [Value.cells, hce] at h0 h1
    obtain ⟨a, ea, rfl, wa⟩ := DataW.trod_string he h0
    obtain ⟨b, eb, rfl, wb⟩ := DataW.trod_string he h1
    simp at ea eb hx
    subst ea eb
    exact ⟨a, b, rfl, hx.1, hx.2, wa, wb⟩
theorem shut_sarr2 {t e : TypeId} {a b : ByteArray} (ht : P.underlying t = some (.array 2 e)) (he : P.underlying e = some .string) (hce : P.cellsOf e = 1) (hC : P.cellsOf t = 2) (wa : a.size ≤ maxLen) (wb : b.size ≤ maxLen) :
    DataW.Trod enc P w base spare held t (.agg #[.string a, .string b]) (.agg [.lit (.string a.data.toList), .lit (.string b.data.toList)]) [] := by
  refine ⟨2, ?_⟩
  unfold DataW.trod
  rw [ht]
  have r2 : List.range 2 = [0, 1] := rfl
  simp [Value.cells, hC, hce, r2, DataW.trod, he, wa, wb]
theorem strs_weights {P : Program} {e : TypeId} : ∀ (l : List ByteArray) (s : ByteArray), s ∈ l → s.data.toList.length ∈ DataW.weightsAll (H := H) P e (strs l)
  | [], _, h => by cases h
  | x :: l, s, h => by
    show _ ∈ [x.data.toList.length] ++ DataW.weightsAll (H := H) P e (strs l)
    rcases List.mem_cons.1 h with rfl | h
    · exact List.mem_append_left _ (List.mem_singleton.2 rfl)
    · exact List.mem_append_right _ (strs_weights l s h)
theorem open_strl {fuel : Nat} {v : Value} {x : DataW H × List MemPlace} (h : DataW.trod enc Try.prog w base spare held fuel 51 [v] = some x) (hw : ∀ q ∈ x.1.weights Try.prog 51, q ≤ reachBytes) :
    ∃ (A : Option Addr) (n c : Nat) (ks : List (List UInt8)), v = .slice A n c ∧ Rws w 1 A n (ks.map fun k => [strV k]) ∧ ∀ k ∈ ks, k.length ≤ 281474976710656 := by
  rcases open_strings Try.underlying51 Try.underlying9 (by kernel_rfl) h with ⟨h0, _⟩ | ⟨a, len, cap, ss, h0, _, hl, _, hss, rfl, hcell, _⟩
  · injection h0 with h0
    exact ⟨none, 0, 0, [], h0, rws_nil w 1 none, fun k hk => by cases hk⟩
  · injection h0 with h0
    have hlm : len ≤ ss.length := by rw [hss]; split <;> omega
    have hw1 : ∀ q ∈ ((strs (H := H) (ss.take len)).length + (strs (H := H) (ss.drop len)).length) * Try.prog.bytesOf 9 :: (DataW.weightsAll Try.prog 9 (strs (H := H) (ss.take len)) ++ DataW.weightsAll Try.prog 9 (strs (H := H) (ss.drop len))), q ≤ reachBytes := fun q hq => hw q (by
      unfold DataW.weights
      simp only [Try.underlying51]
      exact hq)
    have hb := hw1 _ (List.mem_cons_self ..)
    have e16 : Try.prog.bytesOf 9 = 16 := by kernel_rfl
    rw [e16] at hb
    have e1 : (strs (H := H) (ss.take len)).length = len := by simp [strs]; omega
    rw [e1] at hb
    have hr := reachBytes_lt
    refine ⟨some a, len, cap, (ss.take len).map fun s => s.data.toList, h0, ⟨by simp; omega, fun r hr => ?_, by omega, fun hp => ?_⟩, fun k hk => ?_⟩
    · simp only [List.map_map, List.mem_map] at hr
      obtain ⟨s, _, rfl⟩ := hr
      rfl
    · obtain ⟨b, off, spot⟩ := a
      have hc0 := hcell 0 (by omega)
      have hspot : spot = none := by simpa [Addr.add] using World.cell?_spot hc0
      subst hspot
      refine ⟨b, off, rfl, fun i r hr j v hv => ?_⟩
      simp only [List.map_map, List.getElem?_map, Option.map_eq_some_iff] at hr
      obtain ⟨s, hs, rfl⟩ := hr
      rw [List.getElem?_take] at hs
      split at hs
      · rename_i hil
        have := hcell i (by omega)
        rw [List.getD_eq_getElem?_getD, hs] at this
        rcases j with _ | j
        · cases hv
          rw [add_nat] at this
          rw [Nat.add_zero, Nat.mul_one]
          exact this
        · cases hv
      · cases hs
    · obtain ⟨s, hs, rfl⟩ := List.mem_map.1 hk
      have := hw1 _ (List.mem_cons_of_mem _ (List.mem_append_left _ (strs_weights _ s hs)))
      omega
end
theorem size_str : (Try.prog.info? 9).map (·.size) = some 1 := by kernel_rfl
end Go.Proofs.Ytmlkdkbpbleilaa
