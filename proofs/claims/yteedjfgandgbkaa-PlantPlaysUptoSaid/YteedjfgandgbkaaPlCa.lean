/-
  plant's disks: a clone of a map of sectors, of a list of writes. No conditions.
-/
import Derived.Test.YteedjfgandgbkaaJa0
import Derived.Shelf.SlMaps.Clone
import Derived.WalkSpells
namespace Go.Proofs.Yteedjfgandgbkaa
open Go.RowKit Go.Maps
set_option linter.unusedVariables false
theorem MapAt.entries {P : Program} {k : TypeId} {κ α : Type} {K : MKey P k κ} {E : Elem α} {w : World} {b n : Nat} {f : κ → Option α} (h : MapAt w K E b n f) :
    ∃ es clock, w.heap[b]? = some (.map es clock) ∧ ∀ w', w'.heap[w.heap.size]? = some (.map es clock) → MapAt w' K E w.heap.size n f := by
  obtain ⟨D, ⟨es, clock, hb, F, hs, hD⟩, ht⟩ := h
  exact ⟨es, clock, hb, fun w' hw => ⟨D, ⟨es, clock, hw, F, hs, hD⟩, ht⟩⟩
set_option maxHeartbeats 1000000 in
theorem mclone_walk (b : Nat) (es : Array MapEntry) (clock : Nat) (w : World) (hb : w.heap[b]? = some (.map es clock)) :
    Calls Try.prog 24 #[.map (some b)] w fun e w' => e = .returned (.map (some w.heap.size)) ∧ w' = w.alloc (.map es clock) := by
  have hq := fun w => run_eql_map_nil_sl (P := Try.prog) w 56 _ _ (some b) Try.underlying56
  go_enter Try.func24, Try.ntmps24
  go_wp2
  rw [run_callFunc_extern Try.func41 (by kernel_rfl) (by kernel_rfl) (by kernel_rfl) (e := Extern.MapsClone.clone) (by kernel_rfl), run_maps_clone_sl w 56 hb]
  simp only [Result.andThen]
  rw [Oper.upon_value]
  go_wp2
  rw [run_typeAssert_map_sl _ 56 20 _ _ _ Try.underlying56]
  simp only [Result.andThen]
  rw [Oper.upon_value]
  go_wp2
  go_ret
  exact ⟨rfl, rfl⟩
theorem owns_zero {w : World} {B : Nat} {e : TypeId} {sz n : Nat} {v : Value} {xs : List Value} (h : w.ownsRow B e sz v n xs) : w.ownsRow 0 e sz v n xs := by
  refine ⟨h.1, ?_⟩
  rcases h.2 with h2 | ⟨g, cap, cur, rfl, h3, h4⟩
  · exact .inl h2
  · exact .inr ⟨g, cap, cur, rfl, Nat.zero_le _, h4⟩
def Cloned (w : World) (ws : List Wt) (e : Ending) (w' : World) : Prop := ∃ v', e = .returned v' ∧ Waits w' v' ws ∧ (∀ g, v'.ownBlock = some g → w.heap.size ≤ g) ∧ Turn nowhere w w'
theorem exec_make0w {a : Act} {o : Oper} {W : World} (ho : o.op = .buildSlice 57 0 #[]) : (execOp a.eval o).run Try.prog W = .ok (.value (.slice (some ⟨W.heap.size, 0, none⟩) 0 0)) (W.alloc (.cells #[] 66)) := by
  unfold execOp
  simp only [ho]
  kernel_rfl
theorem exec_eqnilW {a : Act} {o : Oper} {W : World} {x : Operand} {A : Option Addr} {n c : Nat} (ho : o.op = .binOp .eql 57 x (.const (.slice none 0 0)) 57) (hx : a.eval x = .slice A n c) {r : Bool} (hr : A.isNone = r) : (execOp a.eval o).run Try.prog W = .ok (.value (.bool r)) W := by
  subst hr
  have h := Lib.run_eql_slice_nil (P := Try.prog) W 57 _ A n c 0 0 Try.underlying57
  have hy : a.eval (.const (.slice none 0 0)) = .slice none 0 0 := rfl
  unfold execOp
  simp [ho, hx, hy, eqGuard, h]
set_option maxHeartbeats 1000000 in
theorem sclone_walk (v : Value) (ws : List Wt) (w : World) (h : Waits w v ws) (hl : ws.length < 1099511627776) :
    Calls Try.prog 25 #[v] w (Cloned w ws) := by
  obtain ⟨i0, hi0, hz0, hz1, hz2⟩ := info_parts info_write
  have HW := Lib.hid h
  rcases h.2 with ⟨rfl, h0⟩ | ⟨g, cap, cur, rfl, _, hb, hn, hm, hs, ht⟩
  · have h1 : ws = [] := List.eq_nil_of_length_eq_zero h0
    have H1 := Lib.hid h1
    clear h1 h0 hl h
    go_enter Try.func25, Try.ntmps25
    go_upto_region 1 with fail
    refine wp_region_lit ?_
    refine wpList_run (v := .slice none 0 0) rfl (exec_move rfl rfl) ?_
    simp only [Act.put, List.setIfInBounds_toArray, List.set_cons_zero, List.set_cons_succ]
    refine wpList_run (v := .bool true) (w' := w) rfl (exec_eqnilW rfl rfl rfl) ?_
    simp only [Act.put, List.setIfInBounds_toArray, List.set_cons_zero, List.set_cons_succ]
    go_wp2_with fail
    go_ret
    exact ⟨_, rfl, HW.out, (fun g e => by cases e), Turn.refl _ _⟩
  · have hx : (ws.flatMap wtCells).length = ws.length * 66 := h.1
    generalize hX : ws.flatMap wtCells = X at *
    have h1 : ∀ u ∈ X, u.oneCell' = true := by
      intro u hu
      rw [← hX] at hu
      obtain ⟨y, _, hu⟩ := List.mem_flatMap.1 hu
      exact wtCells_one y u hu
    have hat : ∀ j u, X[j]? = some u → (w.alloc (.cells #[] 66)).cell? ((⟨g, 0, none⟩ : Addr).add j) = some u := by
      intro j u hj
      have hB : Blk w g 66 cur := hb
      rw [add_nat, Nat.zero_add, (hB.alloc _).cell]
      rw [← ht, List.getElem?_take] at hj
      split at hj
      · simpa using hj
      · cases hj
    obtain ⟨v', w', hrun, hown, hg, _⟩ := run_append_own (P := Try.prog) (w := w.alloc (.cells #[] 66)) w.heap.size 57 57 66 i0 _ 66 80 Try.underlying57 hi0 hz0 hz1 hz2
      rfl (by omega) _ 0 [] (World.ownsRow_made w #[] 0 (Nat.le_refl _) (by unfold maxLen; omega) rfl) ⟨g, 0, none⟩ ws.length cap X hx hat h1 (by unfold maxLen; omega) (by omega) (by simp)
    have H1 := Lib.hid hrun
    have H2 := Lib.hid hown
    have H3 := Lib.hid hg
    have HX := Lib.hid hX
    clear hrun hown hg hX hat h1 hx hb hn hm hs ht hl h hi0 hz0 hz1 hz2
    go_enter Try.func25, Try.ntmps25
    go_upto_region 1 with fail
    refine wp_region_lit ?_
    refine wpList_run (v := .slice (some ⟨g, 0, none⟩) ws.length cap) rfl (exec_move rfl rfl) ?_
    simp only [Act.put, List.setIfInBounds_toArray, List.set_cons_zero, List.set_cons_succ]
    refine wpList_run (v := .bool false) (w' := w) rfl (exec_eqnilW rfl rfl rfl) ?_
    simp only [Act.put, List.setIfInBounds_toArray, List.set_cons_zero, List.set_cons_succ]
    go_upto_region 3 with fail
    refine wp_region_lit ?_
    refine wpList_run (v := _) rfl (exec_make0w rfl) ?_
    simp only [Act.put, List.setIfInBounds_toArray, List.set_cons_zero, List.set_cons_succ]
    refine wpList_run (v := .slice (some ⟨g, 0, none⟩) ws.length cap) rfl (exec_move rfl rfl) ?_
    simp only [Act.put, List.setIfInBounds_toArray, List.set_cons_zero, List.set_cons_succ]
    refine wpList_run (v := v') (w' := w') rfl (exec_append rfl rfl rfl H1.out) ?_
    simp only [Act.put, List.setIfInBounds_toArray, List.set_cons_zero, List.set_cons_succ]
    go_wp2_with fail
    go_ret
    refine ⟨v', rfl, ?_, fun k hk => (H2.out.lt k hk).1, ((Turn.refl _ w).alloc _).grown H3.out fun k e hk => ?_⟩
    · unfold Waits
      have h2 := owns_zero H2.out
      rw [List.nil_append, Nat.zero_add] at h2
      rw [HX.out]
      exact h2
    · have e' : w.heap.size = k := by
        injection e
      omega
end Go.Proofs.Yteedjfgandgbkaa
