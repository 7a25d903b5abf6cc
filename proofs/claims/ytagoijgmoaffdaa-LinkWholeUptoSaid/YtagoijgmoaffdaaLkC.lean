/-
  link's split and its cut, walked. Condition: the line is at most 2^43 bytes long.
-/
import Derived.Test.YtagoijgmoaffdaaLkB
namespace Go.Proofs.Ytagoijgmoaffdaa
open Go.RowKit
open Lkk
set_option linter.unusedVariables false
set_option linter.unusedSimpArgs false
theorem cut_walk {w : World} {b n c k : Nat} {A : Option Addr} (hb : Blk w b 22 #[.slice A n c]) (hk : k ≤ n) (hc : n ≤ c) (hm : n ≤ 9223372036854775807) :
    Calls Try.prog 20 #[.int .i64 (k : Int), .pointer (some ⟨b, 0, none⟩)] w fun e w' => e = .returned (.slice A k k) ∧ Blk w' b 22 #[.slice (pos A k c) (n - k) (c - k)] ∧ Turn (only b) w w' := by
  have c0 := hb.cell 0
  have f0 := hb.frozen 0
  have HB := Lib.hid hb
  have HK := Lib.hid hk
  have HC := Lib.hid hc
  clear hb hk hc
  go_enter Try.func20, Try.ntmps20
  go_upto_region 1 with fail
  refine wp_region_lit ?_
  refine wpList_run (v := .slice A n c) rfl (lx_sl rfl rfl c0) ?_
  simp only [Act.put, List.setIfInBounds_toArray, List.set_cons_zero, List.set_cons_succ]
  refine wpList_run (v := .int .i64 (k : Int)) rfl (exec_move rfl rfl) ?_
  simp only [Act.put, List.setIfInBounds_toArray, List.set_cons_zero, List.set_cons_succ]
  refine wpList_run (v := .int .i64 (k : Int)) rfl (exec_move rfl rfl) ?_
  simp only [Act.put, List.setIfInBounds_toArray, List.set_cons_zero, List.set_cons_succ]
  refine wpList_run (v := .slice A k k) rfl (cut_slice3 rfl rfl rfl rfl (Nat.le_trans HK.out HC.out)) ?_
  simp only [Act.put, List.setIfInBounds_toArray, List.set_cons_zero, List.set_cons_succ]

  go_upto_region 2 with fail
  refine wp_region_lit ?_
  refine wpList_run (v := .slice A n c) rfl (lx_sl rfl rfl c0) ?_
  simp only [Act.put, List.setIfInBounds_toArray, List.set_cons_zero, List.set_cons_succ]
  refine wpList_run (v := .int .i64 (k : Int)) rfl (exec_move rfl rfl) ?_
  simp only [Act.put, List.setIfInBounds_toArray, List.set_cons_zero, List.set_cons_succ]
  refine wpList_run (v := .slice (pos A k c) (n - k) (c - k)) rfl (cut_slice2 rfl rfl rfl HK.out) ?_
  simp only [Act.put, List.setIfInBounds_toArray, List.set_cons_zero, List.set_cons_succ]

  obtain ⟨v, hv⟩ : ∃ v, v = Value.slice (pos A k c) (n - k) (c - k) := ⟨_, rfl⟩
  rw [← hv]
  have HV := Lib.hid hv
  clear hv
  refine wpList_store1 rfl 22 (.tmp 1) (.tmp 11) rfl HB.out rfl rfl (by simp) (by rw [HV.out]; rfl) (by rw [HV.out]; rfl) (by kernel_rfl) ?_
  simp only [Act.put, List.setIfInBounds_toArray, List.set_cons_zero, List.set_cons_succ]
  intro hb1 ht1
  have HB1 := Lib.hid hb1
  have HT1 := Lib.hid ht1
  clear hb1 ht1 c0 f0
  generalize w.setCell ⟨b, 0, none⟩ v = w1 at *
  go_wp2_with fail
  go_ret
  rw [← HV.out]
  exact ⟨rfl, HB1.out, HT1.out⟩
/-- a frame's value: bytes that lie in G, none frozen, no room behind -/
def FrC (w : World) (G : Nat → Prop) (v : Value) (f : List UInt8) : Prop := ∃ b off n cur, v = .slice (some ⟨b, off, none⟩) n n ∧ 0 < n ∧ Bs w (some ⟨b, off, none⟩) n f ∧ G b ∧ w.heap[b]? = some (.cells cur 5 (0, 0))
/-- frames that a link tells -/
def Frs (w : World) (G : Nat → Prop) (v : Value) (fs : List (List UInt8)) : Prop := ∃ vals : List Value, w.ownsRow 0 22 1 v fs.length vals ∧ (∀ k, v.ownBlock = some k → G k) ∧ ∀ (i : Nat) (u : Value), vals[i]? = some u → ∃ f, fs[i]? = some f ∧ FrC w G u f
theorem FrC.turn {w w' : World} {F G : Nat → Prop} {v : Value} {f : List UInt8} (h : FrC w G v f) (ht : Turn F w w') (hn : ∀ k, G k → ¬ F k) : FrC w' G v f := by
  obtain ⟨b, off, n, cur, rfl, h1, h2, h3, h4⟩ := h
  have hlt : b < w.heap.size := (Array.getElem?_eq_some_iff.1 h4).1
  exact ⟨b, off, n, cur, rfl, h1, h2.turn ht (fun b' off' s e1 _ _ => by injection e1 with e1; injection e1 with e1; subst e1; exact hn _ h3), h3, by rw [ht.block b hlt (hn _ h3)]; exact h4⟩
theorem FrC.mono {w : World} {G G' : Nat → Prop} {v : Value} {f : List UInt8} (h : FrC w G v f) (hg : ∀ k, G k → k < w.heap.size → G' k) : FrC w G' v f := by
  obtain ⟨b, off, n, cur, rfl, h1, h2, h3, h4⟩ := h
  exact ⟨b, off, n, cur, rfl, h1, h2, hg _ h3 (Array.getElem?_eq_some_iff.1 h4).1, h4⟩
theorem ownsRow_turn {w w' : World} {B n : Nat} {e : TypeId} {v : Value} {xs : List Value} {F : Nat → Prop} (h : w.ownsRow B e 1 v n xs) (ht : Turn F w w') (hn : ∀ k, v.ownBlock = some k → ¬ F k) : w'.ownsRow B e 1 v n xs := by
  refine ⟨h.1, ?_⟩
  rcases h.2 with h0 | ⟨g, cap, cur, rfl, hb1, hgg, rest⟩
  · exact .inl h0
  · have hlt : g < w.heap.size := (Array.getElem?_eq_some_iff.1 hgg).1
    exact .inr ⟨g, cap, cur, rfl, hb1, by rw [ht.block g hlt (hn g rfl)]; exact hgg, rest⟩
theorem Frs.turn {w w' : World} {F G : Nat → Prop} {v : Value} {fs : List (List UInt8)} (h : Frs w G v fs) (ht : Turn F w w') (hn : ∀ k, G k → ¬ F k) : Frs w' G v fs := by
  obtain ⟨vals, h1, h2, h3⟩ := h
  exact ⟨vals, ownsRow_turn h1 ht (fun k hk => hn k (h2 k hk)), h2, fun i u hi => by
    obtain ⟨f, hf, hc⟩ := h3 i u hi
    exact ⟨f, hf, hc.turn ht hn⟩⟩
theorem Frs.mono {w : World} {G G' : Nat → Prop} {v : Value} {fs : List (List UInt8)} (h : Frs w G v fs) (hg : ∀ k, G k → k < w.heap.size → G' k) : Frs w G' v fs := by
  obtain ⟨vals, h1, h2, h3⟩ := h
  exact ⟨vals, h1, fun k hk => hg k (h2 k hk) (h1.lt k hk).2, fun i u hi => by
    obtain ⟨f, hf, hc⟩ := h3 i u hi
    exact ⟨f, hf, hc.mono hg⟩⟩
theorem Frs.form {w : World} {G : Nat → Prop} {v : Value} {fs : List (List UInt8)} (h : Frs w G v fs) : ∃ A c, v = .slice A fs.length c := by
  obtain ⟨vals, h1, _⟩ := h
  exact own_form h1
theorem Frs.none_ (w : World) (G : Nat → Prop) : Frs w G (.slice none 0 0) [] := ⟨[], World.ownsRow_nil w 0 _ 1, (fun k h => by cases h), fun i u h => by cases h⟩
theorem hmf : ∀ (fn : Fn) (first cap : Array Value) (w : World), (Instr.makeFunc fn first cap).run Try.prog w = .ok (.func fn first cap) w := fun _ _ _ _ => rfl

end Go.Proofs.Ytagoijgmoaffdaa
