/-
  field's codes: how they are made. No conditions.
-/
import Derived.Test.YtgdlidjjogoiaaaGreatDoorFdB
import Derived.Laws.EntriesVeiled
namespace Go.Proofs.YtgdlidjjogoiaaaGreatDoor
open Go.RowKit
open Fdd
set_option linter.unusedVariables false
theorem hmf : ∀ (fn : Fn) (first cap : Array Value) (w : World), (Instr.makeFunc fn first cap).run Tryz.prog w = .ok (.func fn first cap) w := fun _ _ _ _ => rfl
def ptrTo (b : Nat) : Value := .pointer (some ⟨b, 0, none⟩)
def pairV (q c : Nat) : Array Value := #[.func (.func 73) #[] #[], .func (.func 74) #[] #[ptrTo q], .func (.func 75) #[] #[ptrTo c]]
def sinV (s c : Nat) : Array Value := #[.func (.func 76) #[] #[], .func (.func 77) #[] #[ptrTo s, ptrTo c], .func (.func 78) #[] #[ptrTo s, ptrTo c]]
def placeV (c : Nat) : Value := .func (.func 71) #[] #[ptrTo c]
theorem size_code : (Tryz.prog.info? 68).map (·.size) = some 3 := by kernel_rfl
theorem blk_at {w : World} {A B C : Obj} : ((w.alloc A).alloc B).alloc C = ((w.alloc A).alloc B).alloc C ∧ w.heap.size + 1 = (w.alloc A).heap.size ∧ w.heap.size + 1 + 1 = ((w.alloc A).alloc B).heap.size := ⟨rfl, by simp, by simp⟩
theorem paired_walk (ch : ByteArray) (w : World) :
    Calls Tryz.prog 54 #[.string ch] w fun e w' => ∃ q c, e = .returned (.agg (pairV q c)) ∧ Blk w' q 76 #[placeV c] ∧ Blk w' c 9 #[.string ch] ∧ Turn nowhere w w' := by
  have hmf := hmf
  have hs1 : w.heap.size + 1 = (w.alloc (.cells #[.string ch] 9)).heap.size := by simp
  have hs2 : w.heap.size + 1 + 1 = ((w.alloc (.cells #[.string ch] 9)).alloc (.cells (pairV (w.heap.size + 1 + 1) w.heap.size) 68)).heap.size := by simp
  have HS1 := Lib.hid hs1
  have HS2 := Lib.hid hs2
  clear hs1 hs2
  go_enter Tryz.func54, Tryz.ntmps54
  go_wp2
  change bodyPost _ _ _ _ _ (((w.alloc (.cells #[.string ch] 9)).alloc (.cells (pairV (w.heap.size + 1 + 1) w.heap.size) 68)).alloc (.cells #[placeV w.heap.size] 76))
  have hb2 := (Blk.new (w.alloc (.cells #[.string ch] 9)) 68 (pairV (w.heap.size + 1 + 1) w.heap.size)).alloc (.cells #[placeV w.heap.size] 76)
  have hb3 := Blk.new ((w.alloc (.cells #[.string ch] 9)).alloc (.cells (pairV (w.heap.size + 1 + 1) w.heap.size) 68)) 76 #[placeV w.heap.size]
  rw [← HS1.out] at hb2
  rw [← HS2.out] at hb3
  refine bodyPost_ret (v := .agg (pairV (w.heap.size + 1 + 1) w.heap.size)) (results_cell_row rfl _ _ (w.heap.size + 1) 68 _ (0, 0) _ rfl hb2 Tryz.underlying68 rfl size_code) rfl
    ⟨w.heap.size + 1 + 1, w.heap.size, rfl, hb3, ((Blk.new w 9 #[.string ch]).alloc _).alloc _, (((Turn.refl _ w).alloc _).alloc _).alloc _⟩
theorem single_walk (ch st : ByteArray) (w : World) :
    Calls Tryz.prog 55 #[.string ch, .string st] w fun e w' => ∃ s c, e = .returned (.agg (sinV s c)) ∧ Blk w' s 9 #[.string st] ∧ Blk w' c 9 #[.string ch] ∧ Turn nowhere w w' := by
  have hmf := hmf
  have hs1 : w.heap.size + 1 = (w.alloc (.cells #[.string ch] 9)).heap.size := by simp
  have hs2 : w.heap.size + 1 + 1 = ((w.alloc (.cells #[.string ch] 9)).alloc (.cells #[.string st] 9)).heap.size := by simp
  have HS1 := Lib.hid hs1
  have HS2 := Lib.hid hs2
  clear hs1 hs2
  go_enter Tryz.func55, Tryz.ntmps55
  go_wp2
  change bodyPost _ _ _ _ _ (((w.alloc (.cells #[.string ch] 9)).alloc (.cells #[.string st] 9)).alloc (.cells (sinV (w.heap.size + 1) w.heap.size) 68))
  have hb2 := (Blk.new (w.alloc (.cells #[.string ch] 9)) 9 #[.string st]).alloc (.cells (sinV (w.heap.size + 1) w.heap.size) 68)
  have hb3 := Blk.new ((w.alloc (.cells #[.string ch] 9)).alloc (.cells #[.string st] 9)) 68 (sinV (w.heap.size + 1) w.heap.size)
  rw [← HS1.out] at hb2
  rw [← HS2.out] at hb3
  refine bodyPost_ret (v := .agg (sinV (w.heap.size + 1) w.heap.size)) (results_cell_row rfl _ _ (w.heap.size + 1 + 1) 68 _ (0, 0) _ rfl hb3 Tryz.underlying68 rfl size_code) rfl
    ⟨w.heap.size + 1, w.heap.size, rfl, hb2, ((Blk.new w 9 #[.string ch]).alloc _).alloc _, (((Turn.refl _ w).alloc _).alloc _).alloc _⟩
/-- a part's code -/
def CodeAt (w : World) (cv : Array Value) (p : Pt) : Prop :=
  (p.stands = [] ∧ ∃ q c, cv = pairV q c ∧ Blk w q 76 #[placeV c] ∧ Blk w c 9 #[strV p.chars]) ∨
  (p.stands ≠ [] ∧ ∃ s c, cv = sinV s c ∧ Blk w s 9 #[strV p.stands] ∧ Blk w c 9 #[strV p.chars])
theorem CodeAt.turn {w w' : World} {cv : Array Value} {p : Pt} (h : CodeAt w cv p) (ht : Turn nowhere w w') : CodeAt w' cv p := by
  rcases h with ⟨h0, q, c, h1, h2, h3⟩ | ⟨h0, q, c, h1, h2, h3⟩
  · exact .inl ⟨h0, q, c, h1, h2.turn ht (fun e => e), h3.turn ht (fun e => e)⟩
  · exact .inr ⟨h0, q, c, h1, h2.turn ht (fun e => e), h3.turn ht (fun e => e)⟩
theorem zero_code (w : World) : (zeroValue 68).run Tryz.prog w = .ok (.agg #[.nilFunc, .nilFunc, .nilFunc]) w := by kernel_rfl
theorem pair_one (q c : Nat) : ∀ v ∈ (pairV q c).toList, v.oneCell' = true := by simp [pairV, Value.oneCell']
theorem sin_one (q c : Nat) : ∀ v ∈ (sinV q c).toList, v.oneCell' = true := by simp [sinV, Value.oneCell']
theorem codeOf_walk (p : Pt) (w : World) :
    Calls Tryz.prog 34 #[.agg (ptC p).toArray] w fun e w' => ∃ cv, e = .returned (.agg cv) ∧ CodeAt w' cv p ∧ Turn nowhere w w' := by
  obtain ⟨n, ch, st⟩ := p
  unfold ptC
  go_enter Tryz.func34, Tryz.ntmps34
  go_upto_region 1 with fail
  have hb1 := (Blk.new w 63 #[.int .i64 (n : Int), strV ch, strV st]).alloc (.cells #[.nilFunc, .nilFunc, .nilFunc] 68)
  have hb2 := Blk.new (w.alloc (.cells #[.int .i64 (n : Int), strV ch, strV st] 63)) 68 #[.nilFunc, .nilFunc, .nilFunc]
  have ht := ((Turn.refl nowhere w).alloc (.cells #[.int .i64 (n : Int), strV ch, strV st] 63)).alloc (.cells #[.nilFunc, .nilFunc, .nilFunc] 68)
  rw [show (w.alloc (.cells #[.int .i64 (n : Int), strV ch, strV st] 63)).heap.size = w.heap.size + 1 from by simp] at hb2
  generalize ((w.alloc (.cells #[.int .i64 (n : Int), strV ch, strV st] 63)).alloc (.cells #[.nilFunc, .nilFunc, .nilFunc] 68)) = w2 at *
  obtain ⟨b2, hq⟩ : ∃ b2, b2 = w.heap.size + 1 := ⟨_, rfl⟩
  obtain ⟨b1, hp⟩ : ∃ b1, b1 = w.heap.size := ⟨_, rfl⟩
  rw [← hq] at hb2 ⊢
  rw [← hp] at hb1 ⊢
  have HQ := Lib.hid (show w.heap.size < b2 from by omega)
  have HB2 := Lib.hid hb2
  have HT := Lib.hid ht
  clear hq hp ht hb2
  refine wp_region_lit ?_
  refine wpList_run (v := .pointer (some ⟨b1, 2, none⟩)) rfl (exec_field (off := 0) (d := 2) rfl rfl (by kernel_rfl)) ?_
  simp only [Act.put, List.setIfInBounds_toArray, List.set_cons_zero, List.set_cons_succ]
  refine wpList_run (v := strV st) rfl (exec_load1 rfl rfl (by kernel_rfl) (hb1.cell 2)) ?_
  simp only [Act.put, List.setIfInBounds_toArray, List.set_cons_zero, List.set_cons_succ]
  refine wpList_run (v := .bool (st == [])) (w' := w2) rfl (exec_seql (m := []) rfl rfl rfl) ?_
  simp only [Act.put, List.setIfInBounds_toArray, List.set_cons_zero, List.set_cons_succ]
  have c11 : w2.cell? ⟨b1, 1, none⟩ = some (strV ch) := hb1.cell 1
  have c12 : w2.cell? ⟨b1, 2, none⟩ = some (strV st) := hb1.cell 2
  clear hb1
  by_cases hst : st = []
  · have hst1 : (st == []) = true := by simpa using hst
    have HST := Lib.hid hst
    rw [hst1]
    clear hst hst1
    go_wp2_with (first
      | (go_at_call 54; refine (paired_walk ⟨ch.toArray⟩ _).mono ?_; rintro e w3 ⟨q, c, rfl, h1, h2, h3⟩)
      | (refine wpList_store_row rfl 68 (.tmp 2) (.tmp 8) rfl (pairV q c) (HB2.out.turn h3 (fun e => e)) rfl rfl rfl size_code (pair_one q c) ?_; intro w4 h4 h5))
    have e1 : q ≠ b2 := (h1.turn (Turn.refl nowhere _) (fun e => e)).ne_ (HB2.out.turn h3 (fun e => e)) (by decide)
    have e2 : c ≠ b2 := h2.ne_ (HB2.out.turn h3 (fun e => e)) (by decide)
    refine bodyPost_ret (v := .agg (pairV q c)) (results_cell_row rfl _ _ b2 68 _ (0, 0) _ rfl h4 Tryz.underlying68 rfl size_code) rfl
      ⟨_, rfl, .inl ⟨HST.out, q, c, rfl, h1.turn h5 e1, h2.turn h5 e2⟩, ?_⟩
    exact (HT.out.trans h3 (fun _ _ e => e)).trans h5 (fun j hj e => by have := HQ.out; have h : j = b2 := e; omega)
  · have hst1 : (st == []) = false := by simpa using hst
    have HST := Lib.hid hst
    rw [hst1]
    clear hst hst1
    go_wp2_with (first
      | (go_at_call 55; refine (single_walk ⟨ch.toArray⟩ ⟨st.toArray⟩ _).mono ?_; rintro e w3 ⟨q, c, rfl, h1, h2, h3⟩)
      | (refine wpList_store_row rfl 68 (.tmp 2) (.tmp 13) rfl (sinV q c) (HB2.out.turn h3 (fun e => e)) rfl rfl rfl size_code (sin_one q c) ?_; intro w4 h4 h5))
    have e1 : q ≠ b2 := h1.ne_ (HB2.out.turn h3 (fun e => e)) (by decide)
    have e2 : c ≠ b2 := h2.ne_ (HB2.out.turn h3 (fun e => e)) (by decide)
    refine bodyPost_ret (v := .agg (sinV q c)) (results_cell_row rfl _ _ b2 68 _ (0, 0) _ rfl h4 Tryz.underlying68 rfl size_code) rfl
      ⟨_, rfl, .inr ⟨HST.out, q, c, rfl, h1.turn h5 e1, h2.turn h5 e2⟩, ?_⟩
    exact (HT.out.trans h3 (fun _ _ e => e)).trans h5 (fun j hj e => by have := HQ.out; have h : j = b2 := e; omega)
end Go.Proofs.YtgdlidjjogoiaaaGreatDoor
