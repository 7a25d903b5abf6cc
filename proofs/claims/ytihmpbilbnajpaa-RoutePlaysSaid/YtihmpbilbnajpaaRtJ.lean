/-
  Routes: what is shown at the head of the laws: the walk. No conditions.
-/
import Derived.Test.YtihmpbilbnajpaaRtI
namespace Go.Proofs.Ytihmpbilbnajpaa
open Go.RowKit
open Ix
open Rt (R)
set_option linter.unusedVariables false
set_option linter.unusedSimpArgs false
theorem bx_slice2 {P : Program} {a : Act} {o : Oper} {t : TypeId} {x y : Operand} {u v q : Value} {W W' : World} (ho : o.op = .buildSlice t 2 #[(0, x), (1, y)]) (hx : a.eval x = u) (hy : a.eval y = v)
    (h : (Instr.buildSlice t 2 #[(0, u), (1, v)]).run P W = .ok q W') : (execOp a.eval o).run P W = .ok (.value q) W' := by
  unfold execOp
  simp only [ho, List.map_toArray, List.map_cons, List.map_nil, hx, hy, h, Sem.run_bind, Sem.run_pure, Result.andThen_ok]
theorem build_two (i j : Int) (w : World) : (Instr.buildSlice 36 2 #[(0, .int .i64 i), (1, .int .i64 j)]).run Try.prog w = .ok (.slice (some ⟨w.heap.size, 0, none⟩) 2 2) (w.alloc (.cells #[.int .i64 i, .int .i64 j] 3)) := by kernel_rfl
theorem build_twoR (k r : Key) (A : Option Addr) (n c : Nat) (B : Option Addr) (m d : Nat) (w : World) : (Instr.buildSlice 22 2 #[(0, .agg #[strV k, .slice A n c]), (1, .agg #[strV r, .slice B m d])]).run Try.prog w = .ok (.slice (some ⟨w.heap.size, 0, none⟩) 2 2) (w.alloc (.cells #[strV k, .slice A n c, strV r, .slice B m d] 38)) := by kernel_rfl
theorem ia_one {w : World} {g : Nat} {z : Int} (h : Blk w g 3 #[.int .i64 z]) : IA w (some ⟨g, 0, none⟩) 1 [z] := (orw_of (rs := [z].map one1) (n := 1) (c := 1) (k := 1) h (Nat.zero_le _) (fit1 [z]) rfl (Nat.le_refl _) (by unfold maxLen; omega) rfl (by simp [one1])).rws (by simp) (by decide)
theorem ia_two {w : World} {g : Nat} {z y : Int} (h : Blk w g 3 #[.int .i64 z, .int .i64 y]) : IA w (some ⟨g, 0, none⟩) 2 [z, y] := (orw_of (rs := [z, y].map one1) (n := 2) (c := 2) (k := 1) h (Nat.zero_le _) (fit1 [z, y]) rfl (Nat.le_refl _) (by unfold maxLen; omega) rfl (by simp [one1])).rws (by simp) (by decide)
theorem rt_ok {w : World} {g : Nat} {z : Int} {p : Key} (h : Blk w g 3 #[.int .i64 z]) (hz : -9223372036854775808 ≤ z ∧ z ≤ 9223372036854775807) (hp : p.length ≤ 9223372036854775807) : (RtV.mk p (some ⟨g, 0, none⟩) 1 1 [z]).ok w := by
  refine ⟨ia_one h, Nat.le_refl _, fun e => ?_, ?_, fun y hy => ?_, hp⟩
  · cases e
  · show 1 * 8 ≤ _
    omega
  · have hy : y ∈ [z] := hy
    simp at hy
    subst hy
    exact hz
theorem rt_ok2 {w : World} {g : Nat} {z y : Int} {p : Key} (h : Blk w g 3 #[.int .i64 z, .int .i64 y]) (hz : -9223372036854775808 ≤ z ∧ z ≤ 9223372036854775807) (hy : -9223372036854775808 ≤ y ∧ y ≤ 9223372036854775807) (hp : p.length ≤ 9223372036854775807) : (RtV.mk p (some ⟨g, 0, none⟩) 2 2 [z, y]).ok w := by
  refine ⟨ia_two h, Nat.le_refl _, fun e => ?_, ?_, fun x hx => ?_, hp⟩
  · cases e
  · show 2 * 8 ≤ _
    omega
  · have hx : x ∈ [z, y] := hx
    simp at hx
    rcases hx with rfl | rfl
    · exact hz
    · exact hy
theorem rts_two {w : World} {g : Nat} {a b : RtV} (h : Blk w g 38 #[strV a.pre, .slice a.A a.n a.c, strV b.pre, .slice b.A b.n b.c]) (ha : a.ok w) (hb : b.ok w) : RtsAt w (some ⟨g, 0, none⟩) 2 [a, b] :=
  ⟨(orw_of (rs := [a, b].map RtV.cells) (n := 2) (c := 2) (k := 2) h (Nat.zero_le _) (fitT [a, b]) rfl (Nat.le_refl _) (by unfold maxLen; omega) rfl (by simp [RtV.cells])).rws (by simp) (by decide), fun v hv => by
    simp at hv
    rcases hv with rfl | rfl
    · exact ha
    · exact hb⟩
section
variable {At : World → Nat → (Nat → Prop) → Int → List R → Prop}
theorem Api.f_some (H : Api At) {w : World} {t : Nat} {F : Nat → Prop} {m : Int} {l : List R} {p : Key} {zs : List Int} (h : At w t F m l) (hp : p.length ≤ 9223372036854775807) (hb : Rt.Best l p (some zs)) (hz : 0 < zs.length) :
    Calls Try.prog 18 #[.pointer (some ⟨t, 0, none⟩), strV p] w fun e w' => ∃ b c, e = .returned (.tuple #[.slice (some ⟨b, 0, none⟩) zs.length c, .bool true]) ∧ Orw w' w.heap.size 3 1 (.slice (some ⟨b, 0, none⟩) zs.length c) (zs.map one1) ∧ Turn nowhere w w' := by
  refine (H.find h hp).mono ?_
  rintro e w' ⟨o, A, n, c, h1, h2, rfl, rfl, h4⟩
  obtain rfl := Rt.best_one (H.srt h).1 h1 hb
  obtain ⟨b, c', e1, _⟩ := h4.some_ (by rw [List.length_map]; exact hz)
  injection e1 with e1 e2 e3
  subst e1
  exact ⟨b, c, rfl, h4, h2⟩
theorem Api.f_none (H : Api At) {w : World} {t : Nat} {F : Nat → Prop} {m : Int} {l : List R} {p : Key} (h : At w t F m l) (hp : p.length ≤ 9223372036854775807) (hb : Rt.Best l p none) :
    Calls Try.prog 18 #[.pointer (some ⟨t, 0, none⟩), strV p] w fun e w' => ∃ A c, e = .returned (.tuple #[.slice A 0 c, .bool false]) ∧ Turn nowhere w w' := by
  refine (H.find h hp).mono ?_
  rintro e w' ⟨o, A, n, c, h1, h2, rfl, rfl, h4⟩
  obtain rfl := Rt.best_one (H.srt h).1 h1 hb
  exact ⟨A, c, rfl, h2⟩
theorem sh_a : Rt.Best [([52], [1]), ([52, 53], [2, 1])] [52, 53, 49, 50] (some [2, 1]) := ⟨[52, 53], by simp, by decide, fun y hy hp => by
  simp at hy
  rcases hy with rfl | rfl <;> decide⟩
theorem sh_b : Rt.Best [([52], [1]), ([52, 53], [2, 1])] [52, 54, 49, 50] (some [1]) := ⟨[52], by simp, by decide, fun y hy hp => by
  simp at hy
  rcases hy with rfl | rfl
  · decide
  · exact absurd hp (by decide)⟩
theorem sh_c : Rt.Best [([52], [1]), ([52, 53], [2, 1])] [53] none := fun y hy => by
  simp at hy
  rcases hy with rfl | rfl <;> decide
theorem sh_new : Rt.newE 3 [] [([52], [1]), ([52, 53], [2, 1])] = 0 ∧ Rt.newL 3 [] [([52], [1]), ([52, 53], [2, 1])] = [([52], [1]), ([52, 53], [2, 1])] := by decide
theorem sh_add : Rt.addE 3 [([52], [1]), ([52, 53], [2, 1])] [52, 53] [0] = 111 ∧ Rt.addL 3 [([52], [1]), ([52, 53], [2, 1])] [52, 53] [0] = [([52], [1]), ([52, 53], [2, 1])] := by decide
theorem sh_add2 : Rt.addE 3 [([52], [1]), ([52, 53], [2, 1])] [53] [3] = 112 ∧ Rt.addL 3 [([52], [1]), ([52, 53], [2, 1])] [53] [3] = [([52], [1]), ([52, 53], [2, 1])] := by decide
theorem sh_drop : Rt.dropE [([52], [1]), ([52, 53], [2, 1])] [52, 53] = 0 ∧ Rt.dropL [([52], [1]), ([52, 53], [2, 1])] [52, 53] = [([52], [1])] := by decide
theorem sh_drop2 : Rt.dropE [([52], [1])] [52, 53] = 113 := by decide
end
end Go.Proofs.Ytihmpbilbnajpaa
