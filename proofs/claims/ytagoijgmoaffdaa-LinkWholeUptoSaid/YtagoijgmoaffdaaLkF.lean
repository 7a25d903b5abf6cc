/-
  Rows of frames that can be read; Pack of both; same. Conditions: sizes.
-/
import Derived.Test.YtagoijgmoaffdaaLkE
namespace Go.Proofs.Ytagoijgmoaffdaa
open Go.RowKit
open Lkk
set_option linter.unusedVariables false
set_option linter.unusedSimpArgs false
/-- a frame that can be read -/
def FrR (w : World) (G : Nat → Prop) (v u : Value) (f : List UInt8) : Prop := ∃ b off n c, u = .slice (some ⟨b, off, none⟩) n c ∧ 0 < n ∧ Bs w (some ⟨b, off, none⟩) n f ∧ G b ∧ v.ownBlock ≠ some b
/-- frames that can be read -/
def Frr (w : World) (G : Nat → Prop) (v : Value) (fs : List (List UInt8)) : Prop := ∃ vals : List Value, w.ownsRow 0 22 1 v fs.length vals ∧ (∀ k, v.ownBlock = some k → G k) ∧ ∀ (i : Nat) (u : Value), vals[i]? = some u → ∃ f, fs[i]? = some f ∧ FrR w G v u f
theorem bs_lt {w : World} {b off n : Nat} {f : List UInt8} (h : Bs w (some ⟨b, off, none⟩) n f) (hn : 0 < n) : b < w.heap.size := World.block_lt_of_cell? _ _ (bs_cell h 0 hn)
theorem FrR.turn {w w' : World} {F G : Nat → Prop} {v u : Value} {f : List UInt8} (h : FrR w G v u f) (ht : Turn F w w') (hn : ∀ k, G k → ¬ F k) : FrR w' G v u f := by
  obtain ⟨b, off, n, c, rfl, h1, h2, h3, h4⟩ := h
  exact ⟨b, off, n, c, rfl, h1, h2.turn ht (fun b' off' s e1 _ _ => by injection e1 with e1; injection e1 with e1; subst e1; exact hn _ h3), h3, h4⟩
theorem FrR.mono {w : World} {G G' : Nat → Prop} {v u : Value} {f : List UInt8} (h : FrR w G v u f) (hg : ∀ k, G k → k < w.heap.size → G' k) : FrR w G' v u f := by
  obtain ⟨b, off, n, c, rfl, h1, h2, h3, h4⟩ := h
  exact ⟨b, off, n, c, rfl, h1, h2, hg _ h3 (bs_lt h2 h1), h4⟩
theorem Frr.turn {w w' : World} {F G : Nat → Prop} {v : Value} {fs : List (List UInt8)} (h : Frr w G v fs) (ht : Turn F w w') (hn : ∀ k, G k → ¬ F k) : Frr w' G v fs := by
  obtain ⟨vals, h1, h2, h3⟩ := h
  exact ⟨vals, ownsRow_turn h1 ht (fun k hk => hn k (h2 k hk)), h2, fun i u hi => by
    obtain ⟨f, hf, hc⟩ := h3 i u hi
    exact ⟨f, hf, hc.turn ht hn⟩⟩
theorem Frr.still {w w' : World} {G : Nat → Prop} {v : Value} {fs : List (List UInt8)} (h : Frr w G v fs) (ht : Turn nowhere w w') : Frr w' G v fs := h.turn ht fun _ _ e => e
theorem Frr.mono {w : World} {G G' : Nat → Prop} {v : Value} {fs : List (List UInt8)} (h : Frr w G v fs) (hg : ∀ k, G k → k < w.heap.size → G' k) : Frr w G' v fs := by
  obtain ⟨vals, h1, h2, h3⟩ := h
  exact ⟨vals, h1, fun k hk => hg k (h2 k hk) (h1.lt k hk).2, fun i u hi => by
    obtain ⟨f, hf, hc⟩ := h3 i u hi
    exact ⟨f, hf, hc.mono hg⟩⟩
theorem Frr.form {w : World} {G : Nat → Prop} {v : Value} {fs : List (List UInt8)} (h : Frr w G v fs) : ∃ A c, v = .slice A fs.length c := by
  obtain ⟨vals, h1, _⟩ := h
  exact own_form h1
theorem Frr.none_ (w : World) (G : Nat → Prop) : Frr w G (.slice none 0 0) [] := ⟨[], World.ownsRow_nil w 0 _ 1, (fun k h => by cases h), fun i u h => by cases h⟩
theorem Frr.empty (w : World) (G : Nat → Prop) (h : G w.heap.size) : Frr (w.alloc (.cells #[] 22)) G (.slice (some ⟨w.heap.size, 0, none⟩) 0 0) [] :=
  ⟨[], World.ownsRow_made w #[] 0 (Nat.zero_le _) (Nat.zero_le _) rfl, fun k hk => by
    have : w.heap.size = k := Option.some.inj hk
    subst this
    exact h, fun i u h => by cases h⟩
theorem Frs.frr {w : World} {G : Nat → Prop} {v : Value} {fs : List (List UInt8)} (h : Frs w G v fs) : Frr w G v fs := by
  obtain ⟨vals, h1, h2, h3⟩ := h
  refine ⟨vals, h1, h2, fun i u hi => ?_⟩
  obtain ⟨f, hf, b, off, n, cur, rfl, p1, p2, p3, p4⟩ := h3 i u hi
  refine ⟨f, hf, b, off, n, n, rfl, p1, p2, p3, fun e => ?_⟩
  rcases h1.2 with ⟨rfl, _⟩ | ⟨g', cap, cur', rfl, _, hg', _⟩
  · cases e
  · have e2 : g' = b := Option.some.inj e
    subst e2
    rw [p4] at hg'
    injection hg' with h2
    injection h2 with _ h3
    exact absurd h3 (by decide)
/-- a row's values lie where it says -/
theorem row_cells {w : World} {e : TypeId} {A : Option Addr} {n c : Nat} {xs : List Value} (h : w.ownsRow 0 e 1 (.slice A n c) n xs) : xs.length = n ∧ (A = none → n = 0 ∧ c = 0) ∧ ∀ a, A = some a → ∀ j u, xs[j]? = some u → w.cell? (a.add j) = some u := by
  refine ⟨by rw [h.1, Nat.mul_one], fun e => ?_, fun a ha => ?_⟩
  · subst e
    rcases h.2 with ⟨e, h0⟩ | ⟨g, cap, cur, e, _⟩
    · injection e with _ e2 e3
      exact ⟨e2, e3⟩
    · cases e
  · subst ha
    rcases h.2 with ⟨e, h0⟩ | ⟨g, cap, cur, e, _⟩
    · cases e
    · injection e with e1 e2 e3
      injection e1 with e1
      subst e1
      exact h.cells rfl
theorem frr_cat {w : World} {G E : Nat → Prop} {fv av : Value} {fs gs : List (List UInt8)} {ty : TypeId} (h : Frr w G fv fs) (hv : Frr w E av gs) (hE : ∀ k, E k → k < w.heap.size → G k) (hx : ∀ k, E k → fv.ownBlock ≠ some k)
    (hn : (fs.length + gs.length) * 24 ≤ 140737488355328) (hG : ∀ k, w.heap.size ≤ k → G k) :
    ∃ A c w', (Builtin.append_ #[28, 28] ty #[fv, av]).run Try.prog w = .ok (.slice A (fs.length + gs.length) c) w' ∧ Frr w' G (.slice A (fs.length + gs.length) c) (fs ++ gs) ∧ Ext w w' fv (.slice A (fs.length + gs.length) c) := by
  obtain ⟨vals, h1, h2, h3⟩ := h
  obtain ⟨vals2, g1, g2, g3⟩ := hv
  obtain ⟨A, c, rfl⟩ := own_form g1
  obtain ⟨k1, k2, k3⟩ := row_cells g1
  have hvl : vals.length = fs.length := by rw [h1.1, Nat.mul_one]
  have keep : ∀ {w' : World} {v' : Value}, Ext w w' fv v' → ∀ {u f}, FrR w G fv u f → FrR w' G v' u f := by
    rintro w' v' ht u f ⟨b, off, n, c', rfl, q1, q2, q3, q4⟩
    exact ⟨b, off, n, c', rfl, q1, q2.turn ht.tr (fun b' off' s e1 _ _ => by injection e1 with e1; injection e1 with e1; subst e1; exact fun e => q4 e.symm), q3, fun e => q4 (ht.sub b e.symm (bs_lt q2 q1)).symm⟩
  have keep2 : ∀ {w' : World} {v' : Value}, Ext w w' fv v' → ∀ {u f}, FrR w E (.slice A gs.length c) u f → FrR w' G v' u f := by
    rintro w' v' ht u f hu
    obtain ⟨b, off, n, c', rfl, q1, q2, q3, q4⟩ := hu
    have q4 := hx b q3
    have q3 := hE b q3 (bs_lt q2 q1)
    exact ⟨b, off, n, c', rfl, q1, q2.turn ht.tr (fun b' off' s e1 _ _ => by injection e1 with e1; injection e1 with e1; subst e1; exact fun e => q4 e.symm), q3, fun e => q4 (ht.sub b e.symm (bs_lt q2 q1)).symm⟩
  have one : ∀ u ∈ vals2, u.oneCell' = true := fun u hu => by
    obtain ⟨i, hi, rfl⟩ := List.getElem_of_mem hu
    obtain ⟨f, _, b, off, n, c', e, _⟩ := g3 i _ (List.getElem?_eq_getElem hi)
    rw [e]
    rfl
  rcases A with _ | A
  · obtain ⟨e1, rfl⟩ := k2 rfl
    have hg : gs = [] := List.eq_nil_of_length_eq_zero e1
    subst hg
    obtain ⟨i0, hi0, hz0, hz1, hz2⟩ := info_parts sliceInfo
    have hrun := run_append_owned_none (P := Try.prog) (w := w) 0 28 ty 22 i0 1 Try.underlying28 hi0 fv _ _ h1
    obtain ⟨A', c', rfl⟩ := own_form h1
    exact ⟨A', c', w, hrun, by rw [List.append_nil]; exact ⟨vals, h1, h2, h3⟩, Ext.refl _ _⟩
  · obtain ⟨A', c', w', r1, r2, r3⟩ := append_row (ty := ty) (c := c) Try.underlying28 sliceInfo rfl (news := vals2) (m := gs.length) (A := A) h1 k1 (k3 A rfl) one hn (by unfold maxLen; omega)
    refine ⟨A', c', w', r1, ⟨vals ++ vals2, by rw [List.length_append]; exact r2, fun k hk => ?_, fun i u hi => ?_⟩, r3⟩
    · by_cases hlt : k < w.heap.size
      · exact h2 k (r3.sub k hk.symm hlt).symm
      · exact hG k (by omega)
    · by_cases hil : i < vals.length
      · rw [List.getElem?_append_left hil] at hi
        obtain ⟨f', hf', hc'⟩ := h3 i u hi
        exact ⟨f', by rw [List.getElem?_append_left (by omega)]; exact hf', keep r3 hc'⟩
      · rw [List.getElem?_append_right (by omega)] at hi
        obtain ⟨f', hf', hc'⟩ := g3 _ u hi
        exact ⟨f', by rw [List.getElem?_append_right (by omega), ← hvl]; exact hf', keep2 r3 hc'⟩
/-- one frame alone, in a row of its own -/
theorem frr_one {w : World} {G : Nat → Prop} {b off n c : Nat} {f : List UInt8} (hn : 0 < n) (hb : Bs w (some ⟨b, off, none⟩) n f) (hG : G b) (hG2 : G w.heap.size) : Frr (w.alloc (.cells #[.slice (some ⟨b, off, none⟩) n c] 22)) G (.slice (some ⟨w.heap.size, 0, none⟩) 1 1) [f] := by
  have hlt := bs_lt hb hn
  refine ⟨[.slice (some ⟨b, off, none⟩) n c], ?_, fun k hk => ?_, fun i u hi => ?_⟩
  · exact World.ownsRow_lit w #[.slice (some ⟨b, off, none⟩) n c] 1 (Nat.zero_le _) (by unfold maxLen; omega) rfl
  · have : w.heap.size = k := Option.some.inj hk
    subst this
    exact hG2
  · have hi0 : i = 0 := by
      have := (List.getElem?_eq_some_iff.1 hi).1
      simpa using this
    subst hi0
    have : u = .slice (some ⟨b, off, none⟩) n c := by simpa using hi.symm
    subst this
    refine ⟨f, rfl, b, off, n, c, rfl, hn, hb.still ((Turn.refl nowhere w).alloc _), hG, fun e => ?_⟩
    have : w.heap.size = b := Option.some.inj e
    omega
theorem build_two (x y : Int) (W : World) : (Instr.buildSlice 22 2 #[(0, .int .u8 x), (1, .int .u8 y)]).run Try.prog W = .ok (.slice (some ⟨W.heap.size, 0, none⟩) 2 2) (W.alloc (.cells #[.int .u8 x, .int .u8 y] 5)) := by kernel_rfl
theorem exec_build2 {P : Program} {a : Act} {o : Oper} {t : TypeId} {x y : Operand} {u v r : Value} {W W' : World} (ho : o.op = .buildSlice t 2 #[(0, x), (1, y)]) (hx : a.eval x = u) (hy : a.eval y = v)
    (h : (Instr.buildSlice t 2 #[(0, u), (1, v)]).run P W = .ok r W') : (execOp a.eval o).run P W = .ok (.value r) W' := by
  unfold execOp
  simp only [ho, List.map_toArray, List.map_cons, List.map_nil, hx, hy, h, Sem.run_bind, Sem.run_pure, Result.andThen_ok]
def okL (b : List UInt8) : Bool := decide (1 ≤ b.length ∧ b.length ≤ 512)
def pkd (b : List UInt8) : List UInt8 := if okL b = true then pk b else []
/-- what Pack tells -/
def Packed (w w' : World) (b : List UInt8) (e : Ending) : Prop := ∃ v, e = .returned (.tuple #[v, .int .i64 (ec (okL b))]) ∧ Own w' 0 5 v (pkd b) ∧ Turn nowhere w w' ∧ ∀ k, v.ownBlock = some k → w.heap.size ≤ k
theorem packed_bad {w w' : World} {b : List UInt8} (h : okL b = false) (ht : Turn nowhere w w') : Packed w w' b (.returned (.tuple #[.slice none 0 0, .int .i64 60])) := by
  refine ⟨.slice none 0 0, by rw [h]; rfl, ?_, ht, fun k hk => by cases hk⟩
  unfold pkd
  rw [h, if_neg (by decide)]
  exact Own.none_ _ _ _
/-- the two bytes of the length, and then the frame -/
theorem pack_run {w : World} {A : Option Addr} {n c : Nat} {b : List UInt8} (hb : Bs w A n b) (hc : A = none → c = 0) (h : okL b = true) {x y : Nat} (hx : x = n / 256) (hy : (UInt8.ofNat y) = UInt8.ofNat n) {ty : TypeId} :
    ∃ A' c' w', (Builtin.append_ #[22, 22] ty #[.slice (some ⟨w.heap.size, 0, none⟩) 2 2, .slice A n c]).run Try.prog (w.alloc (.cells #[.int .u8 (((UInt8.ofNat x).toNat : Nat) : Int), .int .u8 (((UInt8.ofNat y).toNat : Nat) : Int)] 5)) = .ok (.slice A' (2 + n) c') w' ∧
      Packed w w' b (.returned (.tuple #[.slice A' (2 + n) c', .int .i64 0])) := by
  have hl := hb.1
  have h' : 1 ≤ b.length ∧ b.length ≤ 512 := of_decide_eq_true h
  subst hx
  have hown : Own (w.alloc (.cells #[.int .u8 (((UInt8.ofNat (n / 256)).toNat : Nat) : Int), .int .u8 (((UInt8.ofNat y).toNat : Nat) : Int)] 5)) 0 5 (.slice (some ⟨w.heap.size, 0, none⟩) 2 2) [UInt8.ofNat (n / 256), UInt8.ofNat y] :=
    World.ownsRow_lit w _ 2 (Nat.zero_le _) (by unfold maxLen; omega) rfl
  obtain ⟨A', c', w', g1, g2, g3⟩ := append_src (ty := ty) hown (hb.still ((Turn.refl nowhere w).alloc (.cells #[.int .u8 (((UInt8.ofNat (n / 256)).toNat : Nat) : Int), .int .u8 (((UInt8.ofNat y).toNat : Nat) : Int)] 5))) hc (by simp; omega)
  refine ⟨A', c', w', g1, .slice A' (2 + n) c', by rw [h]; rfl, ?_, ?_, fun k hk => ?_⟩
  · unfold pkd pk
    rw [if_pos h, hl]
    rw [hy] at g2
    exact g2
  · refine ((Turn.refl nowhere w).alloc _).trans g3.tr fun k hk e => ?_
    have : k = w.heap.size := Option.some.inj e
    omega
  · by_cases hlt : k < (w.alloc (.cells #[.int .u8 (((UInt8.ofNat (n / 256)).toNat : Nat) : Int), .int .u8 (((UInt8.ofNat y).toNat : Nat) : Int)] 5)).heap.size
    · have : k = w.heap.size := Option.some.inj (g3.sub k hk.symm hlt)
      omega
    · simp at hlt
      omega

set_option maxRecDepth 20000 in
set_option maxHeartbeats 2000000 in
theorem pack_walk {w : World} {A : Option Addr} {n c : Nat} {b : List UInt8} (hb : Bs w A n b) (hc : A = none → c = 0) (hm : n ≤ 9223372036854775807) :
    Calls Try.prog 10 #[.slice A n c] w fun e w' => Packed w w' b e := by
  have hisl := isLen_walk n
  have hl := hb.1
  have HB := Lib.hid hb
  have HC := Lib.hid hc
  have HM := Lib.hid hm
  have hok : okL b = decide (1 ≤ n ∧ n ≤ 512) := by unfold okL; rw [hl]
  cases hk : decide (1 ≤ n ∧ n ≤ 512) with
  | false =>
    rw [hk] at hisl hok
    have HIS := Lib.hid hisl
    have HK := Lib.hid hok
    clear hisl hok hk hb hc hl hm
    go_enter Try.func10, Try.ntmps10
    go_wp2_with (go_at_call 18; refine (HIS.out _).mono ?_; rintro e w1 ⟨rfl, rfl⟩)
    go_ret2
    exact packed_bad HK.out (Turn.refl _ _)
  | true =>
    rw [hk] at hisl hok
    obtain ⟨A', c', w', hrun, hp⟩ := pack_run (x := n / 256) (y := n) (ty := 22) hb hc hok rfl rfl
    have HIS := Lib.hid hisl
    have HRUN := Lib.hid hrun
    have HP := Lib.hid hp
    clear hisl hok hk hb hc hl hrun hp hm
    go_enter Try.func10, Try.ntmps10
    go_upto_region 3 with (go_at_call 18; refine (HIS.out _).mono ?_; rintro e w1 ⟨rfl, rfl⟩)
    refine wp_region_lit ?_
    refine wpList_run (v := .slice A n c) rfl (exec_move rfl rfl) ?_
    simp only [Act.put, List.setIfInBounds_toArray, List.set_cons_zero, List.set_cons_succ]
    refine wpList_run (v := .int .i64 (n : Int)) rfl (lx_blen rfl rfl) ?_
    simp only [Act.put, List.setIfInBounds_toArray, List.set_cons_zero, List.set_cons_succ]
    refine wpList_run (v := .int .i64 ((n / 256 : Nat) : Int)) rfl (ix_shr8 rfl rfl HM.out) ?_
    simp only [Act.put, List.setIfInBounds_toArray, List.set_cons_zero, List.set_cons_succ]
    refine wpList_run (v := .int .u8 (((UInt8.ofNat (n / 256)).toNat : Nat) : Int)) rfl (ix_i2b rfl rfl) ?_
    simp only [Act.put, List.setIfInBounds_toArray, List.set_cons_zero, List.set_cons_succ]
    refine wpList_run (v := .slice A n c) rfl (exec_move rfl rfl) ?_
    simp only [Act.put, List.setIfInBounds_toArray, List.set_cons_zero, List.set_cons_succ]
    refine wpList_run (v := .int .i64 (n : Int)) rfl (lx_blen rfl rfl) ?_
    simp only [Act.put, List.setIfInBounds_toArray, List.set_cons_zero, List.set_cons_succ]
    refine wpList_run (v := .int .u8 (((UInt8.ofNat n).toNat : Nat) : Int)) rfl (ix_i2b rfl rfl) ?_
    simp only [Act.put, List.setIfInBounds_toArray, List.set_cons_zero, List.set_cons_succ]
    refine wpList_run (v := .slice (some ⟨w1.heap.size, 0, none⟩) 2 2) (w' := w1.alloc (.cells #[.int .u8 (((UInt8.ofNat (n / 256)).toNat : Nat) : Int), .int .u8 (((UInt8.ofNat n).toNat : Nat) : Int)] 5)) rfl (exec_build2 rfl rfl rfl (build_two _ _ _)) ?_
    simp only [Act.put, List.setIfInBounds_toArray, List.set_cons_zero, List.set_cons_succ]
    refine wpList_run (v := .slice A n c) rfl (exec_move rfl rfl) ?_
    simp only [Act.put, List.setIfInBounds_toArray, List.set_cons_zero, List.set_cons_succ]
    refine wpList_run (v := .slice A' (2 + n) c') (w' := w') rfl (exec_append rfl rfl rfl HRUN.out) ?_
    simp only [Act.put, List.setIfInBounds_toArray, List.set_cons_zero, List.set_cons_succ]

    clear HRUN
    go_wp2_with fail
    go_ret2
    exact HP.out
set_option maxRecDepth 20000 in
set_option maxHeartbeats 2000000 in
theorem rpack_walk {w : World} {A : Option Addr} {n c : Nat} {b : List UInt8} (hb : Bs w A n b) (hc : A = none → c = 0) (hm : n ≤ 9223372036854775807) :
    Calls Try.prog 11 #[.slice A n c] w fun e w' => Packed w w' b e := by
  have hl := hb.1
  have HB := Lib.hid hb
  have HC := Lib.hid hc
  have HM := Lib.hid hm
  have hok : okL b = decide (1 ≤ n ∧ n ≤ 512) := by unfold okL; rw [hl]
  by_cases h1 : 1 ≤ n
  · have y1 : ¬ ((n : Int) < 1) := by omega
    by_cases h2 : n ≤ 512
    · have y2 : ¬ ((512 : Int) < (n : Int)) := by omega
      rw [decide_eq_true (And.intro h1 h2)] at hok
      obtain ⟨A', c', w', hrun, hp⟩ := pack_run (x := n / 256) (y := n % 256) (ty := 22) hb hc hok rfl (by apply UInt8.toNat_inj.1; rw [UInt8.toNat_ofNat', UInt8.toNat_ofNat']; omega)
      have HRUN := Lib.hid hrun
      have HP := Lib.hid hp
      clear hok hb hc hl hrun hp hm h1 h2
      go_enter Try.func11, Try.ntmps11
      go_upto_region 3 with fail
      refine wp_region_lit ?_
      refine wpList_run (v := .slice A n c) rfl (exec_move rfl rfl) ?_
      simp only [Act.put, List.setIfInBounds_toArray, List.set_cons_zero, List.set_cons_succ]
      refine wpList_run (v := .int .i64 (n : Int)) rfl (lx_blen rfl rfl) ?_
      simp only [Act.put, List.setIfInBounds_toArray, List.set_cons_zero, List.set_cons_succ]
      refine wpList_run (v := .int .i64 ((n / 256 : Nat) : Int)) rfl (ix_q256 rfl rfl HM.out) ?_
      simp only [Act.put, List.setIfInBounds_toArray, List.set_cons_zero, List.set_cons_succ]
      refine wpList_run (v := .int .u8 (((UInt8.ofNat (n / 256)).toNat : Nat) : Int)) rfl (ix_i2b rfl rfl) ?_
      simp only [Act.put, List.setIfInBounds_toArray, List.set_cons_zero, List.set_cons_succ]
      refine wpList_run (v := .slice A n c) rfl (exec_move rfl rfl) ?_
      simp only [Act.put, List.setIfInBounds_toArray, List.set_cons_zero, List.set_cons_succ]
      refine wpList_run (v := .int .i64 (n : Int)) rfl (lx_blen rfl rfl) ?_
      simp only [Act.put, List.setIfInBounds_toArray, List.set_cons_zero, List.set_cons_succ]
      refine wpList_run (v := .int .i64 ((n % 256 : Nat) : Int)) rfl (ix_r256 rfl rfl HM.out) ?_
      simp only [Act.put, List.setIfInBounds_toArray, List.set_cons_zero, List.set_cons_succ]
      refine wpList_run (v := .int .u8 (((UInt8.ofNat (n % 256)).toNat : Nat) : Int)) rfl (ix_i2b rfl rfl) ?_
      simp only [Act.put, List.setIfInBounds_toArray, List.set_cons_zero, List.set_cons_succ]
      refine wpList_run (v := .slice (some ⟨w.heap.size, 0, none⟩) 2 2) (w' := w.alloc (.cells #[.int .u8 (((UInt8.ofNat (n / 256)).toNat : Nat) : Int), .int .u8 (((UInt8.ofNat (n % 256)).toNat : Nat) : Int)] 5)) rfl (exec_build2 rfl rfl rfl (build_two _ _ _)) ?_
      simp only [Act.put, List.setIfInBounds_toArray, List.set_cons_zero, List.set_cons_succ]
      refine wpList_run (v := .slice A n c) rfl (exec_move rfl rfl) ?_
      simp only [Act.put, List.setIfInBounds_toArray, List.set_cons_zero, List.set_cons_succ]
      refine wpList_run (v := .slice A' (2 + n) c') (w' := w') rfl (exec_append rfl rfl rfl HRUN.out) ?_
      simp only [Act.put, List.setIfInBounds_toArray, List.set_cons_zero, List.set_cons_succ]

      clear HRUN
      go_wp2_with fail
      go_ret2
      exact HP.out
    · have y2 : (512 : Int) < (n : Int) := by omega
      rw [decide_eq_false (fun h => h2 h.2)] at hok
      have HK := Lib.hid hok
      clear hok hb hc hl hm h1 h2
      go_enter Try.func11, Try.ntmps11
      go_wp2_with fail
      go_ret2
      exact packed_bad HK.out (Turn.refl _ _)
  · have y1 : (n : Int) < 1 := by omega
    rw [decide_eq_false (fun h => h1 h.1)] at hok
    have HK := Lib.hid hok
    clear hok hb hc hl hm h1
    go_enter Try.func11, Try.ntmps11
    go_wp2_with fail
    go_ret2
    exact packed_bad HK.out (Turn.refl _ _)

end Go.Proofs.Ytagoijgmoaffdaa
