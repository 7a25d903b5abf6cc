/-
  Texts in one file: WmU WmV Rwo Rwn LtOf. Conditions: the tables and the errors read as the program's text lays them.
-/
import Derived.Test.YthfhalbdfmahdaaDoorJW31
import Derived.Test.YthfhalbdfmahdaaDoorJW32
import Derived.Test.YthfhalbdfmahdaaDoorJW0
import Derived.Test.YthfhalbdfmahdaaDoorJW7
namespace Go.Proofs.YthfhalbdfmahdaaDoor
open Go.RowKit
open Wl (B8)
set_option linter.unusedVariables false
set_option linter.unusedSimpArgs false
set_option maxRecDepth 20000
/-- which of n things -/
def amongI (c n : Int) : Int := (if c < 0 then -(c + 1) else c).tmod n
theorem among_in {c n : Int} (hn : 0 < n) : 0 ≤ amongI c n ∧ amongI c n < n := by
  unfold amongI
  split
  · rw [Int.tmod_eq_emod_of_nonneg (by omega)]
    exact ⟨Int.emod_nonneg _ (by omega), Int.emod_lt_of_pos _ hn⟩
  · rw [Int.tmod_eq_emod_of_nonneg (by omega)]
    exact ⟨Int.emod_nonneg _ (by omega), Int.emod_lt_of_pos _ hn⟩
theorem wx_rem {a : Act} {o : Oper} {W : World} {x y : Operand} {i j : Int} (ho : o.op = .binOp .rem 3 x y 3) (hx : a.eval x = .int .i64 i) (hy : a.eval y = .int .i64 j) (hj : 0 < j) (hi : 0 ≤ i ∧ i ≤ 9223372036854775807) : (execOp a.eval o).run Tryd.prog W = .ok (.value (.int .i64 (i.tmod j))) W := by
  have h1 : 0 ≤ i.tmod j ∧ i.tmod j ≤ 9223372036854775807 := by
    rw [Int.tmod_eq_emod_of_nonneg hi.1]
    have h2 := Int.emod_nonneg i (b := j) (by omega)
    have h3 := Int.mul_ediv_add_emod i j
    have h4 := Int.mul_nonneg (show 0 ≤ j by omega) (Int.ediv_nonneg hi.1 (show 0 ≤ j by omega))
    omega
  have hne : j ≠ 0 := by omega
  unfold execOp
  simp only [ho, hx, hy]
  go_simp
  all_goals first | rfl | (rw [if_neg hne]; first | rfl | (rw [IntKind.wrap_i64 (by omega) (by omega)]; rfl) | simp) | simp [hne]
theorem wx_neg {a : Act} {o : Oper} {W : World} {x : Operand} {i r : Int} (ho : o.op = .unOp .neg 3 x) (hx : a.eval x = .int .i64 i) (h : -i = r) (hb : -9223372036854775808 ≤ r ∧ r ≤ 9223372036854775807) : (execOp a.eval o).run Tryd.prog W = .ok (.value (.int .i64 r)) W := by
  have hw : IntKind.wrap .i64 r = r := by rw [IntKind.wrap_i64]; omega
  unfold execOp
  simp only [ho, hx]
  go_simp
  try (rw [h]; exact hw)
set_option maxRecDepth 20000 in
set_option maxHeartbeats 4000000 in
theorem among_walk {w : World} (c n : Int) (hc : -9223372036854775808 ≤ c ∧ c ≤ 9223372036854775807) (hn : 0 < n) : Calls Tryd.prog 11 #[.int .i64 c, .int .i64 n] w fun r w' => r = .returned (.int .i64 (amongI c n)) ∧ w' = w := by
  have HC := Lib.hid hc
  have HN := Lib.hid hn
  clear hc hn
  go_enter Tryd.func11, Tryd.ntmps11
  go_upto_region 0 with fail
  refine wp_region_lit ?_
  refine wpList_run (v := .int .i64 0) (wanted_none rfl) (gx_assign rfl rfl) ?_
  simp only [zz]
  by_cases h0 : c < 0
  · go_upto_region 1 with fail
    refine wp_region_lit ?_
    refine wpList_run (v := .int .i64 c) (wanted_none rfl) (exec_move rfl rfl) ?_
    simp only [zz]
    refine wpList_run (v := .bool true) (wanted_none rfl) (ix_lss rfl rfl rfl (decide_eq_true h0)) ?_
    simp only [zz]
    go_upto_region 2 with fail
    refine wp_region_lit ?_
    refine wpList_run (v := .int .i64 c) (wanted_none rfl) (exec_move rfl rfl) ?_
    simp only [zz]
    refine wpList_run (v := .int .i64 (c + 1)) (wanted_none rfl) (ix_add rfl rfl rfl rfl (by have := HC.out; omega)) ?_
    simp only [zz]
    refine wpList_run (v := .int .i64 (-(c + 1))) (wanted_none rfl) (wx_neg rfl rfl rfl (by have := HC.out; omega)) ?_
    simp only [zz]
    refine wpList_run (v := .int .i64 (-(c + 1))) (wanted_none rfl) (gx_assign rfl rfl) ?_
    simp only [zz]
    go_upto_region 3 with fail
    refine wp_region_lit ?_
    refine wpList_run (v := .int .i64 (-(c + 1))) (wanted_none rfl) (exec_move rfl rfl) ?_
    simp only [zz]
    refine wpList_run (v := .int .i64 n) (wanted_none rfl) (exec_move rfl rfl) ?_
    simp only [zz]
    refine wpList_run (v := .int .i64 ((-(c + 1)).tmod n)) (wanted_none rfl) (wx_rem rfl rfl rfl HN.out (by have := HC.out; omega)) ?_
    simp only [zz]
    refine wpList_run (v := .int .i64 ((-(c + 1)).tmod n)) (wanted_none rfl) (gx_assign rfl rfl) ?_
    simp only [zz]
    go_wp2_with fail
    go_ret
    exact ⟨by unfold amongI; rw [if_pos h0]; rfl, rfl⟩
  · go_upto_region 1 with fail
    refine wp_region_lit ?_
    refine wpList_run (v := .int .i64 c) (wanted_none rfl) (exec_move rfl rfl) ?_
    simp only [zz]
    refine wpList_run (v := .bool false) (wanted_none rfl) (ix_lss rfl rfl rfl (decide_eq_false h0)) ?_
    simp only [zz]
    go_upto_region 3 with fail
    refine wp_region_lit ?_
    refine wpList_run (v := .int .i64 c) (wanted_none rfl) (exec_move rfl rfl) ?_
    simp only [zz]
    refine wpList_run (v := .int .i64 n) (wanted_none rfl) (exec_move rfl rfl) ?_
    simp only [zz]
    refine wpList_run (v := .int .i64 (c.tmod n)) (wanted_none rfl) (wx_rem rfl rfl rfl HN.out (by have := HC.out; omega)) ?_
    simp only [zz]
    refine wpList_run (v := .int .i64 (c.tmod n)) (wanted_none rfl) (gx_assign rfl rfl) ?_
    simp only [zz]
    go_wp2_with fail
    go_ret
    exact ⟨by unfold amongI; rw [if_neg (show ¬ c < 0 by omega)]; rfl, rfl⟩
end Go.Proofs.YthfhalbdfmahdaaDoor
namespace Go.Proofs.YthfhalbdfmahdaaDoor
open Go.RowKit
open Wl (B8 Gp)
set_option linter.unusedVariables false
set_option linter.unusedSimpArgs false
set_option maxRecDepth 20000
/-- x is an open log on disk 0 of p: first f, next N; no fuse is set; all of its blocks are newer than w; B bounds what has been done -/
def Calm (w wr : World) (p S n B f N x : Nat) : Prop :=
  ∃ (F : Nat → Prop) (s : AP) (K : Nat) (d : AD) (v : WalV) (vP vH : Value) (L : List Wl.Rec) (gs : List Gp), Lg wr x p 0 F s K d S v vP vH L gs ∧ s.fuse < 0 ∧ v.first = f ∧ f + L.length = N ∧ N ≤ B ∧ v.age ≤ B + 2 ∧ K ≤ 70000 + 100 * B ∧ d.n = (n : Int) ∧ ∀ b, F b ∨ WalG x vP vH b → w.heap.size ≤ b
section
variable {w wr : World} {p S n B f N x : Nat}
theorem cost_le {l : Wl.Rec} (h : ¬ Wl.long l) : Wl.cost l ≤ 64 := by
  unfold Wl.long at h
  unfold Wl.cost
  omega
theorem Calm.still {w' : World} (h : Calm w wr p S n B f N x) (ht : Turn nowhere wr w') : Calm w w' p S n B f N x := by
  obtain ⟨F, s, K, d, v, vP, vH, L, gs, h1, h2⟩ := h
  exact ⟨F, s, K, d, v, vP, vH, L, gs, h1.still ht, h2⟩
theorem Calm.first (h : Calm w wr p S n B f N x) : Calls Tryd.prog 22 #[.pointer (some ⟨x, 0, none⟩)] wr fun r w' => r = .returned (.int .i64 (f : Int)) ∧ w' = wr := by
  obtain ⟨F, s, K, d, v, vP, vH, L, gs, h1, h2, h3, _⟩ := h
  rw [← h3]
  exact First_walk h1.wb
theorem Calm.next (h : Calm w wr p S n B f N x) (hB : B ≤ 100000) : Calls Tryd.prog 23 #[.pointer (some ⟨x, 0, none⟩)] wr fun r w' => r = .returned (.int .i64 (N : Int)) ∧ Turn nowhere wr w' := by
  obtain ⟨F, s, K, d, v, vP, vH, L, gs, h1, h2, h3, h4, h5, _⟩ := h
  refine (Next_walk h1.wb (by omega)).mono ?_
  rintro r w' ⟨rfl, ht⟩
  rw [h1.lv.pn, h3, h4]
  exact ⟨rfl, ht⟩
theorem Calm.append (h : Calm w wr p S n B f N x) (hw : Turn nowhere w wr) (hB : B ≤ 100000) {A : Option Addr} {m cap : Nat} {l : Wl.Rec} (hl : Ls wr A m l) :
    Calls Tryd.prog 14 #[.pointer (some ⟨x, 0, none⟩), .slice A m cap] wr fun r w' => Turn nowhere w w' ∧ ((r = .returned (.tuple #[.int .i64 (N : Int), .int .i64 0]) ∧ Calm w w' p S n (B + 1) f (N + 1) x) ∨ ∃ e : Int, e ≠ 0 ∧ r = .returned (.tuple #[.int .i64 0, .int .i64 e]) ∧ Calm w w' p S n (B + 1) f N x) := by
  obtain ⟨F, s, K, d, v, vP, vH, L, gs, h1, h2, h3, h4, h5, h6, h7, h8, h9⟩ := h
  have hz := hw.size
  refine (h1.append (cap := cap) (by omega) (by omega) (by omega) hl).mono ?_
  rintro r w' (⟨_, rfl, ht⟩ | ⟨_, _, rfl, ht⟩ | ⟨hnl, ht, F', s', hF, _, _, _, hj, (⟨_, rfl, hfu, P, d', vP', gs', hlg, hdn, hnw⟩ | ⟨hfz, _⟩)⟩)
  · exact ⟨hw.trans ht fun _ _ e => e, .inr ⟨5, by decide, rfl, F, s, K, d, v, vP, vH, L, gs, h1.still ht, h2, h3, h4, by omega, by omega, by omega, h8, h9⟩⟩
  · exact ⟨hw.trans ht fun _ _ e => e, .inr ⟨3, by decide, rfl, F, s, K, d, v, vP, vH, L, gs, h1.still ht, h2, h3, h4, by omega, by omega, by omega, h8, h9⟩⟩
  · have hc := cost_le hnl
    refine ⟨hw.trans ht fun b hb e => by have := h9 b e; omega, .inl ⟨by rw [h3, h4], F', s', _, d', _, vP', vH, L ++ [l], gs', hlg, by rw [hfu h2]; exact h2, h3, by rw [List.length_append]; show f + (L.length + 1) = _; omega, by omega, by show v.age ≤ _; omega, by omega, hdn.trans h8, fun b hb => ?_⟩⟩
    rcases hb with e | e
    · rcases hF b e with e | e
      · exact h9 b (.inl e)
      · omega
    · rcases hnw b e with e | e
      · exact h9 b (.inr e)
      · omega
  · exact absurd h2 hfz
theorem Calm.cut (h : Calm w wr p S n B f N x) (hw : Turn nowhere w wr) (hB : B ≤ 100000) {g : Nat} (hg : f ≤ g) (hgN : g ≤ N) :
    Calls Tryd.prog 19 #[.pointer (some ⟨x, 0, none⟩), .int .i64 (g : Int)] wr fun r w' => r = .returned (.int .i64 0) ∧ Turn nowhere w w' ∧ Calm w w' p S n (B + 1) g N x := by
  obtain ⟨F, s, K, d, v, vP, vH, L, gs, h1, h2, h3, h4, h5, h6, h7, h8, h9⟩ := h
  have hz := hw.size
  refine (h1.cutw (by omega) (by omega) (by omega) (g : Int) (by omega)).mono ?_
  rintro r w' (⟨hbad, _⟩ | ⟨ht, k, F', s', hk, hkl, hF, _, _, _, hj, (⟨_, rfl, hfu, d', vP', hlg, hdn, hnw⟩ | ⟨hfz, _⟩)⟩)
  · exact absurd ⟨by omega, by omega⟩ hbad
  · refine ⟨rfl, hw.trans ht fun b hb e => by have := h9 b e; omega, F', s', _, d', _, vP', vH, L.drop k, gs.drop k, hlg, by rw [hfu h2]; exact h2, by show v.first + k = g; omega, by rw [List.length_drop]; omega, by omega, by show v.age + 1 ≤ _; omega, by omega, hdn.trans h8, fun b hb => ?_⟩
    rcases hb with e | e
    · rcases hF b e with e | e
      · exact h9 b (.inl e)
      · omega
    · exact h9 b (.inr (hnw b e))
  · exact absurd h2 hfz
theorem Calm.open_ (h : Calm w wr p S n B f N x) (hw : Turn nowhere w wr) (hB : B ≤ 100000) (hS : segsN (n : Int) = S) :
    Calls Tryd.prog 21 #[.pointer (some ⟨p, 0, none⟩), .int .i64 0] wr fun r w' => Turn nowhere w w' ∧ ∃ x', r = .returned (.tuple #[.pointer (some ⟨x', 0, none⟩), .int .i64 0]) ∧ Calm w w' p S n (B + 1) f N x' := by
  obtain ⟨F, s, K, d, v, vP, vH, L, gs, h1, h2, h3, h4, h5, h6, h7, h8, h9⟩ := h
  have hz := hw.size
  have hsm := h1.small
  refine (open_ok (i := 0) (f := f) (L := L) (S := S) (d := d) h1.pt h1.tab h1.tf h1.ds h1.on h1.dry (by rw [segsP_at h1.ds, h8, hS]) (by omega) (by have h := h1.lv.on.disk; rwa [h3] at h) (by rw [h1.lv.on.gr]; omega) (by omega) (by omega)).mono ?_
  rintro r w' ⟨ht, F', s', hF, _, _, _, hj, (⟨_, hfu, x', d', v', vP', vH', gs', rfl, hlg, hdn, hvf, hva, hnw⟩ | ⟨hfz, _⟩)⟩
  · refine ⟨hw.trans ht fun b hb e => by have := h9 b (.inl e); omega, x', rfl, F', s', _, d', v', vP', vH', L, gs', hlg, by rw [hfu h2]; exact h2, hvf, h4, by omega, by rw [hva, h1.lv.on.gr]; omega, by omega, hdn.trans h8, fun b hb => ?_⟩
    rcases hb with e | e
    · rcases hF b e with e | e
      · exact h9 b (.inl e)
      · omega
    · have := hnw b e
      omega
  · exact absurd h2 hfz
end
/-- what ground makes -/
theorem ground_calm {w : World} (n : Nat) (hn : 258 ≤ n) (hn2 : n ≤ 65536) (htab : Tab w) : Calls Tryd.prog 12 #[.int .i64 (n : Int)] w fun r w' => Turn nowhere w w' ∧ ∃ p x, r = .returned (.tuple #[.pointer (some ⟨p, 0, none⟩), .pointer (some ⟨x, 0, none⟩)]) ∧ Calm w w' p ((n - 2) / 64) n 0 0 0 x := by
  refine (ground_walk n hn hn2 htab).mono ?_
  rintro r w' ⟨ht, p, x, F, s, d, v, vP, vH, rfl, hlg, hfu, hvf, hva, hdn, hF, hG, _⟩
  exact ⟨ht, p, x, rfl, F, s, _, d, v, vP, vH, [], [], hlg, hfu, hvf, rfl, by omega, by omega, by omega, hdn, fun b hb => hb.elim (hF b) (hG b)⟩
theorem Calm.mono {w wr : World} {p S n B C f N x : Nat} (h : Calm w wr p S n B f N x) (hC : B ≤ C) : Calm w wr p S n C f N x := by
  obtain ⟨F, s, K, d, v, vP, vH, L, gs, h1, h2, h3, h4, h5, h6, h7, h8, h9⟩ := h
  exact ⟨F, s, K, d, v, vP, vH, L, gs, h1, h2, h3, h4, by omega, by omega, by omega, h8, h9⟩
theorem Calm.old {w w0 wr : World} {p S n B f N x : Nat} (h : Calm w wr p S n B f N x) (hz : w0.heap.size ≤ w.heap.size) : Calm w0 wr p S n B f N x := by
  obtain ⟨F, s, K, d, v, vP, vH, L, gs, h1, h2, h3, h4, h5, h6, h7, h8, h9⟩ := h
  exact ⟨F, s, K, d, v, vP, vH, L, gs, h1, h2, h3, h4, h5, h6, h7, h8, fun b hb => Nat.le_trans hz (h9 b hb)⟩
theorem Calm.fN {w wr : World} {p S n B f N x : Nat} (h : Calm w wr p S n B f N x) : f ≤ N ∧ N ≤ B := by
  obtain ⟨F, s, K, d, v, vP, vH, L, gs, h1, h2, h3, h4, h5, _⟩ := h
  omega
end Go.Proofs.YthfhalbdfmahdaaDoor
namespace Go.Proofs.YthfhalbdfmahdaaDoor
open Go.RowKit Go.ChangeShapes Go.WideShapes Go.Deep
set_option linter.unusedVariables false
section
variable {H : Type} {enc : TypeId × Value → H} {P : Program} {w : World} {base : Nat} {spare : Nat → Bool} {held : Bool}
theorem weights_all {e : TypeId} {d : DataW H} {q : Nat} : ∀ {l : List (DataW H)}, d ∈ l → q ∈ d.weights P e → q ∈ DataW.weightsAll P e l
  | x :: l, h, hq => by
    unfold DataW.weightsAll
    rcases List.mem_cons.1 h with rfl | h
    · exact List.mem_append_left _ hq
    · exact List.mem_append_right _ (weights_all h hq)
/-- a slice whose elements read as 'en x' -/
theorem open_rwsW {α : Type} {t e : TypeId} {fuel k by_ : Nat} {v : Value} {x : DataW H × List MemPlace} (ht : P.underlying t = some (.slice e)) (hC : P.cellsOf e = k) (hk : 0 < k) (hby : P.bytesOf e = by_) (hb1 : 1 ≤ by_) (en : α → List Value) (Q : α → Prop) (d0 : α) (hen : ∀ x, (en x).length = k)
    (dec : ∀ n cs y, DataW.trod enc P w base spare held n e cs = some y → (∀ q ∈ y.1.weights P e, q ≤ reachBytes) → ∃ x : α, cs = en x ∧ Q x) (h : DataW.trod enc P w base spare held fuel t [v] = some x) (hw : ∀ q ∈ x.1.weights P t, q ≤ reachBytes) :
    ∃ (A : Option Addr) (n c : Nat) (xs : List α), v = .slice A n c ∧ Rws w k A n (xs.map en) ∧ n ≤ c ∧ (A = none → c = 0) ∧ n * by_ ≤ reachBytes ∧ (∀ x ∈ xs, Q x) ∧ (x.1 = .nil ∧ n = 0 ∨ ∃ D E, x.1 = .slice D E ∧ D.length = n) := by
  rcases open_slice ht h with ⟨h0, hx0⟩ | ⟨a, len, cap, m, n, D, Pl, hcs, hb, hl, hm, hmm, rfl, hi⟩
  · injection h0 with h0
    exact ⟨none, 0, 0, [], h0, rws_nil w k none, Nat.le_refl _, fun _ => rfl, by omega, fun x hx => (by cases hx), .inl ⟨by rw [hx0], rfl⟩⟩
  · injection hcs with hcs
    have hlm : len ≤ m := by rw [hmm]; split <;> omega
    have hb2 : len * by_ ≤ reachBytes := by
      have := hw ((((List.range len).map D).length + ((List.range (m - len)).map fun j => D (len + j)).length) * P.bytesOf e) (by
        unfold DataW.weights
        simp only [ht]
        exact List.mem_cons_self ..)
      rw [hby] at this
      simp only [List.length_map, List.length_range] at this
      have h3 : len * by_ ≤ (len + (m - len)) * by_ := Nat.mul_le_mul_right _ (by omega)
      omega
    have hwt : ∀ i, i < len → ∀ q ∈ (D i).weights P e, q ≤ reachBytes := by
      intro i hi' q hq
      refine hw q ?_
      unfold DataW.weights
      simp only [ht]
      exact List.mem_cons_of_mem _ (List.mem_append_left _ (weights_all (List.mem_map.2 ⟨i, List.mem_range.2 hi', rfl⟩) hq))
    have hn : len ≤ 140737488355328 := by
      have h1 := reachBytes_lt
      have h2 : len * 1 ≤ len * by_ := Nat.mul_le_mul_left _ hb1
      omega
    rw [hC] at hi
    have one : ∀ i, ∃ x : α, i < len → w.cells? base (a.add (i * k)) k = some (en x) ∧ Q x := by
      intro i
      by_cases him : i < len
      · obtain ⟨cs, hc, ht'⟩ := hi i (by omega)
        obtain ⟨x, rfl, hq⟩ := dec _ _ _ ht' (hwt i him)
        exact ⟨x, fun _ => ⟨hc, hq⟩⟩
      · exact ⟨d0, fun h => absurd h him⟩
    obtain ⟨F, hF⟩ := Classical.axiomOfChoice one
    refine ⟨some a, len, cap, (List.range len).map F, hcs, ⟨by simp, fun r hr => ?_, hn, fun hp => ?_⟩, hl, (fun h => by cases h), hb2, fun x hx => ?_, .inr ⟨_, _, rfl, by simp⟩⟩
    · obtain ⟨x, _, rfl⟩ := List.mem_map.1 hr
      exact hen x
    · have hall : ∀ i, i < len → ∀ j v, (en (F i))[j]? = some v → w.cell? (a.add (i * k + j)) = some v := by
        intro i him j v hv
        obtain ⟨_, hcl, hat⟩ := World.cells?_some (hF i him).1
        have hj : j < k := by
          have := (List.getElem?_eq_some_iff.1 hv).1
          rwa [hen] at this
        have := hat j hj
        rw [hv] at this
        rw [← this, Go.Deep.add_add]
      obtain ⟨b, off, spot⟩ := a
      have hv0 : (en (F 0))[0]? = some ((en (F 0))[0]'(by rw [hen]; exact hk)) := List.getElem?_eq_getElem _
      have hc0 := hall 0 (by omega) 0 _ hv0
      have hspot : spot = none := by simpa [Addr.add] using World.cell?_spot hc0
      subst hspot
      refine ⟨b, off, rfl, fun i r hr j v hv => ?_⟩
      have hil : i < len := by
        have := (List.getElem?_eq_some_iff.1 hr).1
        simpa using this
      have hre : r = en (F i) := by
        rw [List.getElem?_map, List.getElem?_map, List.getElem?_range hil] at hr
        exact (Option.some.inj hr).symm
      subst hre
      have := hall i (by omega) j v hv
      rw [add_nat] at this
      rw [Nat.add_assoc]
      exact this
    · obtain ⟨i, hi', rfl⟩ := List.mem_map.1 hx
      exact (hF i (List.mem_range.1 hi')).2
end
end Go.Proofs.YthfhalbdfmahdaaDoor
namespace Go.Proofs.YthfhalbdfmahdaaDoor
open Go.RowKit Go.ChangeShapes Go.WideShapes Go.Deep
set_option linter.unusedVariables false
section
variable {H : Type} {enc : TypeId × Value → H} {P : Program} {w : World} {base : Nat} {spare : Nat → Bool} {held : Bool}
end
end Go.Proofs.YthfhalbdfmahdaaDoor
namespace Go.Proofs.YthfhalbdfmahdaaDoor
open Go.RowKit Go.ChangeShapes Go.WideShapes Go.Deep
set_option linter.unusedVariables false
section
variable {H : Type} {enc : TypeId × Value → H} {P : Program} {w : World} {base : Nat} {spare : Nat → Bool} {held : Bool}
/-- a slice whose elements read as 'en x'; of what each holds something more is known -/
theorem open_rwsP {α : Type} {t e : TypeId} {fuel k by_ : Nat} {v : Value} {x : DataW H × List MemPlace} (ht : P.underlying t = some (.slice e)) (hC : P.cellsOf e = k) (hk : 0 < k) (hby : P.bytesOf e = by_) (hb1 : 1 ≤ by_) (en : α → List Value) (Q : α → Prop) (d0 : α) (hen : ∀ x, (en x).length = k)
    (Pd : DataW H → Prop) (dec : ∀ n cs y, DataW.trod enc P w base spare held n e cs = some y → (∀ q ∈ y.1.weights P e, q ≤ reachBytes) → Pd y.1 → ∃ x : α, cs = en x ∧ Q x) (h : DataW.trod enc P w base spare held fuel t [v] = some x) (hw : ∀ q ∈ x.1.weights P t, q ≤ reachBytes) (hPd : ∀ D E, x.1 = .slice D E → ∀ d ∈ D, Pd d) :
    ∃ (A : Option Addr) (n c : Nat) (xs : List α), v = .slice A n c ∧ Rws w k A n (xs.map en) ∧ n ≤ c ∧ (A = none → c = 0) ∧ n * by_ ≤ reachBytes ∧ (∀ x ∈ xs, Q x) ∧ (x.1 = .nil ∧ n = 0 ∨ ∃ D E, x.1 = .slice D E ∧ D.length = n) := by
  rcases open_slice ht h with ⟨h0, hx0⟩ | ⟨a, len, cap, m, n, D, Pl, hcs, hb, hl, hm, hmm, rfl, hi⟩
  · injection h0 with h0
    exact ⟨none, 0, 0, [], h0, rws_nil w k none, Nat.le_refl _, fun _ => rfl, by omega, fun x hx => (by cases hx), .inl ⟨by rw [hx0], rfl⟩⟩
  · injection hcs with hcs
    have hlm : len ≤ m := by rw [hmm]; split <;> omega
    have hb2 : len * by_ ≤ reachBytes := by
      have := hw ((((List.range len).map D).length + ((List.range (m - len)).map fun j => D (len + j)).length) * P.bytesOf e) (by
        unfold DataW.weights
        simp only [ht]
        exact List.mem_cons_self ..)
      rw [hby] at this
      simp only [List.length_map, List.length_range] at this
      have h3 : len * by_ ≤ (len + (m - len)) * by_ := Nat.mul_le_mul_right _ (by omega)
      omega
    have hwt : ∀ i, i < len → ∀ q ∈ (D i).weights P e, q ≤ reachBytes := by
      intro i hi' q hq
      refine hw q ?_
      unfold DataW.weights
      simp only [ht]
      exact List.mem_cons_of_mem _ (List.mem_append_left _ (weights_all (List.mem_map.2 ⟨i, List.mem_range.2 hi', rfl⟩) hq))
    have hpd : ∀ i, i < len → Pd (D i) := fun i hi' => hPd _ _ rfl (D i) (List.mem_map.2 ⟨i, List.mem_range.2 hi', rfl⟩)
    have hn : len ≤ 140737488355328 := by
      have h1 := reachBytes_lt
      have h2 : len * 1 ≤ len * by_ := Nat.mul_le_mul_left _ hb1
      omega
    rw [hC] at hi
    have one : ∀ i, ∃ x : α, i < len → w.cells? base (a.add (i * k)) k = some (en x) ∧ Q x := by
      intro i
      by_cases him : i < len
      · obtain ⟨cs, hc, ht'⟩ := hi i (by omega)
        obtain ⟨x, rfl, hq⟩ := dec _ _ _ ht' (hwt i him) (hpd i him)
        exact ⟨x, fun _ => ⟨hc, hq⟩⟩
      · exact ⟨d0, fun h => absurd h him⟩
    obtain ⟨F, hF⟩ := Classical.axiomOfChoice one
    refine ⟨some a, len, cap, (List.range len).map F, hcs, ⟨by simp, fun r hr => ?_, hn, fun hp => ?_⟩, hl, (fun h => by cases h), hb2, fun x hx => ?_, .inr ⟨_, _, rfl, by simp⟩⟩
    · obtain ⟨x, _, rfl⟩ := List.mem_map.1 hr
      exact hen x
    · have hall : ∀ i, i < len → ∀ j v, (en (F i))[j]? = some v → w.cell? (a.add (i * k + j)) = some v := by
        intro i him j v hv
        obtain ⟨_, hcl, hat⟩ := World.cells?_some (hF i him).1
        have hj : j < k := by
          have := (List.getElem?_eq_some_iff.1 hv).1
          rwa [hen] at this
        have := hat j hj
        rw [hv] at this
        rw [← this, Go.Deep.add_add]
      obtain ⟨b, off, spot⟩ := a
      have hv0 : (en (F 0))[0]? = some ((en (F 0))[0]'(by rw [hen]; exact hk)) := List.getElem?_eq_getElem _
      have hc0 := hall 0 (by omega) 0 _ hv0
      have hspot : spot = none := by simpa [Addr.add] using World.cell?_spot hc0
      subst hspot
      refine ⟨b, off, rfl, fun i r hr j v hv => ?_⟩
      have hil : i < len := by
        have := (List.getElem?_eq_some_iff.1 hr).1
        simpa using this
      have hre : r = en (F i) := by
        rw [List.getElem?_map, List.getElem?_map, List.getElem?_range hil] at hr
        exact (Option.some.inj hr).symm
      subst hre
      have := hall i (by omega) j v hv
      rw [add_nat] at this
      rw [Nat.add_assoc]
      exact this
    · obtain ⟨i, hi', rfl⟩ := List.mem_map.1 hx
      exact (hF i (List.mem_range.1 hi')).2
end
theorem bulk_mem2 {H : Type} {d : DataW H} : ∀ {l : List (DataW H)}, d ∈ l → Rows.uptoBulk d ≤ Rows.uptoBulkAll l
  | [], h => by cases h
  | e :: r, h => by
    simp only [Rows.uptoBulkAll]
    rcases List.mem_cons.1 h with rfl | h
    · omega
    · have := bulk_mem2 h
      omega
/-- a row of texts that lies in a row -/
structure LtV where
  A : Option Addr
  n : Nat
  c : Nat
  l : List (List UInt8)
def LtV.cells (v : LtV) : List Value := [.slice v.A v.n v.c]
/-- rows of texts -/
structure LtsAt (w : World) (A : Option Addr) (n : Nat) (vs : List LtV) : Prop where
  row : Rws w 1 A n (vs.map LtV.cells)
  ok : ∀ v ∈ vs, Ls w v.A v.n v.l
theorem LtsAt.still {w w' : World} {A : Option Addr} {n : Nat} {vs : List LtV} (h : LtsAt w A n vs) (ht : Turn nowhere w w') : LtsAt w' A n vs := ⟨h.row.still ht, fun v hv => (h.ok v hv).still ht⟩
theorem LtsAt.len {w : World} {A : Option Addr} {n : Nat} {vs : List LtV} (h : LtsAt w A n vs) : vs.length = n := by
  have := h.row.1
  rwa [List.length_map] at this
theorem LtsAt.at_ {w : World} {A : Option Addr} {n : Nat} {vs : List LtV} (h : LtsAt w A n vs) {i : Nat} {v : LtV} (hv : vs[i]? = some v) : ∃ b off, A = some ⟨b, off, none⟩ ∧ w.cell? ⟨b, off + i * 1, none⟩ = some (.slice v.A v.n v.c) := by
  obtain ⟨b, off, hA, hc⟩ := h.row.at_ (i := i) (r := v.cells) (by rw [List.getElem?_map, hv]; rfl)
  exact ⟨b, off, hA, hc 0 _ rfl⟩
section
variable {H : Type} {enc : TypeId × Value → H} {W : World} {base : Nat} {held : Bool}
set_option maxRecDepth 20000 in
/-- rows of texts that came in, of small bulk -/
theorem lts_of {fuel : Nat} {v : Value} {x : DataW H × List MemPlace} (h : DataW.trod enc Tryd.prog W base (fun _ => true) held fuel 30 [v] = some x) (hw : ∀ q ∈ x.1.weights Tryd.prog 30, q ≤ reachBytes) (hk : Rows.uptoBulk x.1 ≤ 1048576) :
    ∃ (A : Option Addr) (n c : Nat) (vs : List LtV), v = .slice A n c ∧ LtsAt W A n vs ∧ n ≤ c ∧ (A = none → c = 0) := by
  obtain ⟨A, n, c, vs, h1, h2, h3, h4, h5, h6, h7⟩ := open_rwsP (by_ := 24) Tryd.underlying30 (k := 1) (by kernel_rfl) (by decide) (by kernel_rfl) (by decide) LtV.cells (fun v => Ls W v.A v.n v.l) ⟨none, 0, 0, []⟩ (fun _ => rfl) (fun d => Rows.uptoBulk d ≤ 1048576) (fun n cs y hy hwy hpy => by
    rcases open_ls hy hpy with rfl | ⟨a, len, cap, ls, rfl, hl⟩
    · exact ⟨⟨none, 0, 0, []⟩, rfl, ls_nil _ _⟩
    · exact ⟨⟨some a, len, cap, ls⟩, rfl, hl⟩) h hw (fun D E e d hd => by
      rw [e] at hk
      simp only [Rows.uptoBulk] at hk
      have := bulk_mem2 hd
      omega)
  exact ⟨A, n, c, vs, h1, ⟨h2, h6⟩, h3, h4⟩
end
end Go.Proofs.YthfhalbdfmahdaaDoor
