/-
  Index: what a range tells, as the law collects it. No conditions.
-/
import Derived.Test.YtmlkdkbpbleilaaIyK
namespace Go.Proofs.Ytmlkdkbpbleilaa
open Go.RowKit Go.Shelf
open Ix
set_option linter.unusedVariables false
set_option linter.unusedSimpArgs false
attribute [local go_sem] Oper.semAt_some
theorem elmR : Elm Try.prog 29 54 2 24 (.agg #[.string ByteArray.empty, .int .i64 0]) := ⟨Try.underlying29, by kernel_rfl, rfl, by decide, by decide⟩
theorem orw_made (w : World) (et : TypeId) (k : Nat) : Orw (w.alloc (.cells #[] et)) w.heap.size et k (.slice (some ⟨w.heap.size, 0, none⟩) 0 0) [] :=
  ⟨Fit.nil k, World.ownsRow_made w #[] 0 (Nat.le_refl _) (by unfold maxLen; omega) (by simp)⟩
theorem wpListIn_app {F : Fence} {n : Nat} {P : Program} {w w' : World} {ops : Array Oper} {rest : List Oper} {o : Oper} {a : Act} {Q : Exit → Act → World → Prop}
    (hg : o.guard = none) (s x : Operand) (t : TypeId) (hop : o.op = Op.call { callee := Callee.builtin Builtin.append, args := #[s, x], argTypes := #[t, t] })
    {v u r : Value} (hs : a.eval s = v) (hx : a.eval x = u) (hrun : (Builtin.append_ #[t, t] o.type #[v, u]).run P w = .ok r w') (hK : wpListIn F n P ops Q rest (a.put o.dst r) w') :
    wpListIn F n P ops Q (o :: rest) a w := by
  refine wpListIn_plain hg fun K hK' => ?_
  unfold Oper.wpIn
  refine ⟨?_, ?_⟩
  · simp [Oper.about, hop, resolve, Target.leads, Sem.run_pure]
  · rw [Oper.semAt_plain F _ _ (by rw [hop]; intro c hc'; cases hc')]
    simp [execOp, hop, resolve, invoke, builtin, hs, hx, hrun, Result.andThen]
    exact hK' _ _ hK
/-- left behind so many; below nought: never -/
def cut (most : Int) (r : List Pr) : List Pr := if most < 0 then r else r.take most.toNat
theorem cut_all {most : Int} {r : List Pr} (h : 0 ≤ most → (r.length : Int) < most) : cut most r = r := by
  unfold cut
  split
  · rfl
  · rw [List.take_of_length_le]
    have := h (by omega)
    omega
theorem cut_pre {most : Int} {a r : List Pr} (h : a <+: r) (hl : (a.length : Int) = most) : cut most r = a := by
  unfold cut
  rw [if_neg (by omega)]
  obtain ⟨b, rfl⟩ := h
  rw [show most.toNat = a.length from by omega]
  simp
/-- the blocks that the collecting body writes -/
def colG (B9 : Nat) (A : World) (k : Nat) : Prop := k = B9 ∨ ∃ o n c, A.cell? ⟨B9, 0, none⟩ = some (.slice (some ⟨k, o, none⟩) n c)
theorem colG_ok {B9 n0 : Nat} (h : B9 < n0) : GOK (colG B9) n0 := fun A B k hb hn hk => by
  have e : B.cell? ⟨B9, 0, none⟩ = A.cell? ⟨B9, 0, none⟩ := hb.cell (p := ⟨B9, 0, none⟩) h
  rcases hk with hk | ⟨o, n, c, hk⟩
  · exact .inl hk
  · exact .inr ⟨o, n, c, by rw [← e]; exact hk⟩
/-- between two rounds -/
structure ColI (w w1 : World) (most : Int) (B7 B9 : Nat) (pre : List Pr) (W : World) (v : Value) : Prop where
  b9 : Blk W B9 29 #[v]
  row : Orw W w.heap.size 54 2 v (pre.map encP)
  b7 : Blk W B7 3 #[.int .i64 most]
  kp : KpG (colG B9) w1.heap.size w1 W
theorem Blk.by_ {W W' : World} {g : Nat} {t : TypeId} {cs : Array Value} (h : Blk W g t cs) {row : Option Nat} (hg : W.grownBy W' row) (hr : ∀ r, row = some r → ∃ o : Obj, W.heap[r]? = some o ∧ o.isCells = false) : Blk W' g t cs :=
  (grownBy_keeps_cells hg hr (o := .cells cs t (0, 0)) h rfl).trans h
theorem ColI.own {w w1 : World} {most : Int} {B7 B9 : Nat} {pre : List Pr} {W W' : World} {v : Value} {row : Option Nat} (h : ColI w w1 most B7 B9 pre W v) (h9 : B9 < w1.heap.size) (hg : W.grownBy W' row)
    (hr : ∀ r, row = some r → w1.heap.size ≤ r ∧ ∃ o : Obj, W.heap[r]? = some o ∧ o.isCells = false) : ColI w w1 most B7 B9 pre W' v := by
  have ht : Turn (fun k => row = some k) W W' := (Turn.refl _ W).grown hg fun g e _ => e
  refine ⟨h.b9.by_ hg fun r e => (hr r e).2, h.row.turn ht fun b hb e => ?_, h.b7.by_ hg fun r e => (hr r e).2, h.kp.trans ⟨ht.mono fun k _ e => .inr ⟨(hr k e).1, (hr k e).2⟩, fun k hk _ => .inl ?_⟩⟩
  · obtain ⟨o, ho, hc⟩ := (hr b e).2
    obtain ⟨cur, hcur⟩ := h.row.own_blk hb
    have hcur : W.heap[b]? = some (.cells cur 54 (0, 0)) := hcur
    rw [hcur] at ho
    cases ho
    cases hc
  · have e9 := (h.b9.by_ hg fun r e => (hr r e).2).cell 0
    have e8 := h.b9.cell 0
    rcases hk with hk | ⟨o, n, c, hk⟩
    · exact .inl hk
    · exact .inr ⟨o, n, c, by rw [e8]; rw [e9] at hk; exact hk⟩
theorem row_blk {W : World} {B b n c : Nat} {o : Nat} {et : TypeId} {k : Nat} {rs : List (List Value)} (h : Orw W B et k (.slice (some ⟨b, o, none⟩) n c) rs) : (Value.slice (some ⟨b, o, none⟩) n c).ownBlock = some b := rfl
set_option maxHeartbeats 2000000 in
theorem col_step {w w1 : World} {most : Int} {B7 B9 : Nat} {pre : List Pr} {W : World} {v : Value} (h : ColI w w1 most B7 B9 pre W v) (hw : w.heap.size ≤ w1.heap.size) (x : Pr) (hlen : (pre.length + 1) * 24 ≤ 140737488355328) :
    ∃ A c A' c' W2, v = .slice A pre.length c ∧ (Builtin.append_ #[29, 29] 29 #[.slice A pre.length c, .slice (some ⟨W.heap.size, 0, none⟩) 1 1]).run Try.prog (W.alloc (.cells #[strV x.1, .int .i64 x.2] 54)) = .ok (.slice A' (pre.length + 1) c') W2 ∧
      W2.cell? ⟨B9, 0, none⟩ = some (.slice A pre.length c) ∧ W2.frozen? ⟨B9, 0, none⟩ = false ∧ W2.cell? ⟨B7, 0, none⟩ = some (.int .i64 most) ∧ KeepsOthers W (W2.setCell ⟨B9, 0, none⟩ (.slice A' (pre.length + 1) c')) ∧
      KpG (colG B9) w1.heap.size W (W2.setCell ⟨B9, 0, none⟩ (.slice A' (pre.length + 1) c')) ∧ ColI w w1 most B7 B9 (pre ++ [x]) (W2.setCell ⟨B9, 0, none⟩ (.slice A' (pre.length + 1) c')) (.slice A' (pre.length + 1) c') := by
  obtain ⟨A, c, rfl, _, _, hz, _⟩ := h.row.form
  rw [List.length_map] at *
  have hle : w.heap.size ≤ W.heap.size := Nat.le_trans hw h.kp.1.size
  have ha : Turn nowhere W (W.alloc (.cells #[strV x.1, .int .i64 x.2] 54)) := (Turn.refl nowhere W).alloc _
  have hrow := h.row.still ha
  have h9a := h.b9.alloc (.cells #[strV x.1, .int .i64 x.2] 54)
  have h7a := h.b7.alloc (.cells #[strV x.1, .int .i64 x.2] 54)
  have hn9 := hrow.ne h9a (by decide)
  have hn7 := hrow.ne h7a (by decide)
  have h79 : B7 ≠ B9 := h.b7.ne_ h.b9 (by decide)
  obtain ⟨A', c', W2, hrun, hown, hg, hob⟩ := orw_grow elmR (ty := 29) (news := [encP x]) (A := some ⟨W.heap.size, 0, none⟩) (m := 1) (c := 1) hrow (Nat.le_trans hle ha.size) (rws_one (et := 54) (r := encP x) rfl fun _ => trivial) (Fit.one rfl (encP_one x)) (fun e => by cases e) (by rw [List.length_map]; exact hlen)
  rw [List.length_map] at hrun hown hob
  have ht2 : Turn (fun k => (Value.slice A pre.length c).ownBlock = some k) (W.alloc (.cells #[strV x.1, .int .i64 x.2] 54)) W2 := (Turn.refl _ _).grown hg fun g e _ => e
  have h92 := h9a.turn ht2 fun e => hn9 _ e rfl
  have h72 := h7a.turn ht2 fun e => hn7 _ e rfl
  have hn9' := hown.ne h92 (by decide)
  have h93 : Blk (W2.setCell ⟨B9, 0, none⟩ (.slice A' (pre.length + 1) c')) B9 29 #[.slice A' (pre.length + 1) c'] := h92.set_ 0 _
  have h73 := h72.far (p := ⟨B9, 0, none⟩) h79 (.slice A' (pre.length + 1) c')
  have ht3 : Turn (only B9) W2 (W2.setCell ⟨B9, 0, none⟩ (.slice A' (pre.length + 1) c')) := (Turn.refl _ _).at_ 0 _
  have hko : KeepsOthers W (W2.setCell ⟨B9, 0, none⟩ (.slice A' (pre.length + 1) c')) := ((KeepsOthers.alloc W _).trans (KeepsOthers.of_grownBy hg fun j o e ho => by
    obtain ⟨cur, hcur⟩ := hrow.own_blk e
    have hcur : (W.alloc (.cells #[strV x.1, .int .i64 x.2] 54)).heap[j]? = some (.cells cur 54 (0, 0)) := hcur
    rw [hcur] at ho
    cases ho
    rfl)).trans (KeepsOthers.setCell _ _ _)
  have hA : ∀ k, k < W.heap.size → (Value.slice A pre.length c).ownBlock = some k → colG B9 W k := fun k _ e => by
    have e8 := h.b9.cell 0
    rcases A with _ | ⟨ab, ao, ap⟩
    · cases e
    · rcases h.row.2.2 with ⟨e0, _⟩ | ⟨g, cap, cur, e0, _⟩
      · cases e0
      · injection e0 with e1 e2 e3
        cases e1
        have e' := Option.some.inj e
        subst e'
        exact .inr ⟨_, _, _, e8⟩
  have hkp : KpG (colG B9) w1.heap.size W (W2.setCell ⟨B9, 0, none⟩ (.slice A' (pre.length + 1) c')) := by
    refine ⟨((ha.mono fun k _ e => e.elim).trans ht2 fun k hk e => .inl (hA k hk e)).trans ht3 fun k _ e => .inl (.inl e), fun k hk hlt => ?_⟩
    rcases hk with hk | ⟨o, n, cc, hk⟩
    · exact .inl (.inl hk)
    · have e9 : (W2.setCell ⟨B9, 0, none⟩ (.slice A' (pre.length + 1) c')).cell? ⟨B9, 0, none⟩ = some (.slice A' (pre.length + 1) c') := h93.cell 0
      rw [e9] at hk
      injection hk with hk
      injection hk with e1 e2 e3
      subst e1
      have hb : (Value.slice (some ⟨k, o, none⟩) (pre.length + 1) c').ownBlock = some k := rfl
      rw [hb] at hob
      rcases hob with e | e
      · exact .inl (hA k hlt e.symm)
      · injection e with e
        have := ha.size
        rw [World.size_alloc] at e
        omega
  refine ⟨A, c, A', c', W2, rfl, hrun, h92.cell 0, h92.frozen 0, h72.cell 0, hko, hkp, h93, ?_, h73, h.kp.trans hkp⟩
  rw [List.map_append]
  exact hown.turn ht3 fun b hb e => hn9' b hb e
set_option maxRecDepth 20000 in
set_option maxHeartbeats 4000000 in
theorem ranged_walk {w : World} {ix : Nat} {H : Hp} {M N : Nat} {l : List Pr} {fr to : Key} {most : Int} (h : Idx w ix H M l N) :
    Calls Try.prog 18 #[.pointer (some ⟨ix, 0, none⟩), strV fr, strV to, .int .i64 most] w fun e w' => ∃ v, e = .returned v ∧ Orw w' w.heap.size 54 2 v ((cut most (rngOf fr to l)).map encP) ∧ Turn nowhere w w' := by
  have HI := Lib.hid h
  clear h
  have hwa : Turn nowhere w (((w.alloc (.cells #[.int .i64 most] 3)).alloc (.cells #[] 54)).alloc (.cells #[.slice (some ⟨w.heap.size + 1, 0, none⟩) 0 0] 29)) := (((Turn.refl nowhere w).alloc _).alloc _).alloc _
  have hrow : Orw (((w.alloc (.cells #[.int .i64 most] 3)).alloc (.cells #[] 54)).alloc (.cells #[.slice (some ⟨w.heap.size + 1, 0, none⟩) 0 0] 29)) w.heap.size 54 2 (.slice (some ⟨w.heap.size + 1, 0, none⟩) 0 0) [] := by
    have h := orw_made (w.alloc (.cells #[.int .i64 most] 3)) 54 2
    rw [World.size_alloc] at h
    exact (h.less (Nat.le_succ _)).still ((Turn.refl nowhere _).alloc _)
  refine callsIn_wide.1 (?_ : CallsIn Fence.wide 9 _ _ _ _ _)
  refine callsIn_of_wp_marks Try.func18 rfl trivial ?_ rfl
  simp only [Try.ntmps18, List.size_toArray, List.length_cons, List.length_nil, Nat.reduceAdd, Nat.reduceSub, Array.replicate_succ, Array.replicate_zero, List.push_toArray, List.append_toArray, List.nil_append, List.cons_append]
  by_cases h0 : most = 0
  · subst h0
    gi_wp2
    refine ⟨_, results_tmp rfl _ _ _, _, rfl, ?_, hwa⟩
    exact hrow
  · have hz : (most == 0) = false := by simpa using h0
    have H0 := Lib.hid h0
    have HROW := Lib.hid hrow
    have HWA := Lib.hid hwa
    clear h0 hrow hwa
    gi_wp2
    refine ⟨trivial, (callsIn_wide.2 Range_walk).mono ?_⟩
    rintro e w1 ⟨xb, fb, tb, rfl, ht1, ⟨hsx, hsf, hst⟩, hbx, hbf, hbt⟩
    gi_wp2
    have hwa := HWA.out
    have hs1 : w.heap.size + 1 + 1 + 1 ≤ w1.heap.size := by
      have := ht1.size
      simp only [World.size_alloc] at this
      exact this
    simp only [World.size_alloc] at hsx
    have h9 : w.heap.size + 1 + 1 < w1.heap.size := by omega
    have hb9 : Blk w1 (w.heap.size + 1 + 1) 29 #[.slice (some ⟨w.heap.size + 1, 0, none⟩) 0 0] := by
      have := Blk.new ((w.alloc (.cells #[.int .i64 most] 3)).alloc (.cells #[] 54)) 29 #[.slice (some ⟨w.heap.size + 1, 0, none⟩) 0 0]
      rw [World.size_alloc, World.size_alloc] at this
      exact this.turn ht1 fun e => e
    have hb7 : Blk w1 w.heap.size 3 #[.int .i64 most] := (((Blk.new w 3 #[.int .i64 most]).alloc _).alloc _).turn ht1 fun e => e
    have hi1 : Idx w1 ix H M l N := HI.out.still (hwa.trans ht1 fun _ _ e => e)
    have hc0 : ColI w w1 most w.heap.size (w.heap.size + 1 + 1) [] w1 (.slice (some ⟨w.heap.size + 1, 0, none⟩) 0 0) :=
      ⟨hb9, HROW.out.still ht1, hb7, KpG.still (colG_ok h9) (Nat.le_refl _) (Turn.refl _ _)⟩
    have hcolk : ∀ k, colG (w.heap.size + 1 + 1) w1 k → k = w.heap.size + 1 + 1 ∨ k = w.heap.size + 1 := fun k hk => by
      rcases hk with hk | ⟨o, n, c, hk⟩
      · exact .inl hk
      · have e9 : w1.cell? ⟨w.heap.size + 1 + 1, 0, none⟩ = some (.slice (some ⟨w.heap.size + 1, 0, none⟩) 0 0) := hb9.cell 0
        rw [e9] at hk
        injection hk with hk
        injection hk with e1
        injection e1 with e1
        injection e1 with e1
        exact .inr e1.symm
    have hlen : ∀ pre : List Pr, pre.length < (rngOf fr to l).length → (pre.length + 1) * 24 ≤ 140737488355328 := fun pre hp => by
      have h1 : (rngOf fr to l).length ≤ l.length := Nat.le_trans (List.takeWhile_sublist _).length_le (List.filter_sublist (l := l)).length_le
      have h2 := HI.out.cnt
      have h3 := HI.out.big
      omega
    have HFIN := Lib.hid (show ∀ W D, w1.heap.size ≤ D → KpG (colG (w.heap.size + 1 + 1)) w1.heap.size w1 W → Turn nowhere w (W.putObj D (.deferred none)) from fun W D hD hk => by
      have h1 : Turn nowhere w w1 := hwa.trans ht1 fun _ _ e => e
      have h2 : Turn nowhere w W := h1.trans hk.1 fun k hk0 e => by
        rcases e with e | e
        · rcases hcolk k e with e | e <;> omega
        · have := e.1
          omega
      exact h2.grown (grownBy_putObj' W D _) fun g e hg => by
        cases e
        omega)
    clear hwa hsf hst hb9 hb7
    refine wpIn_rangeFunc_ownF (w0 := w1) rfl (by decide) (gf := 34) (lb := #[.pointer (some ⟨xb, 0, none⟩), .pointer (some ⟨fb, 0, none⟩), .pointer (some ⟨tb, 0, none⟩)]) rfl trivial (enters_of Try.func34 (by kernel_rfl) rfl)
      (range_stops (colG_ok h9) (Nat.le_refl _) hbx hbf hbt hi1 (fun k hk => ?own)) (fun h g => h.trans g) (fun W d o o' hd ho hc _ => KpG.put (colG_ok h9) W d o o' hd ho hc) (Below.refl _ _) (fun _ => rfl)
      (fun pre W => (∃ v, ColI w w1 most w.heap.size (w.heap.size + 1 + 1) pre W v) ∧ (0 ≤ most → (pre.length : Int) < most))
      (fun c pre W => c = .exit 0 ∧ (∃ v, ColI w w1 most w.heap.size (w.heap.size + 1 + 1) pre W v) ∧ (pre.length : Int) = most)
      (fun pre A B row hs hg hr => ⟨hs.1.elim fun v hv => ⟨v, hv.own h9 hg hr⟩, hs.2⟩)
      (fun c pre A B row hs hg hr => ⟨hs.1, hs.2.1.elim fun v hv => ⟨v, hv.own h9 hg hr⟩, hs.2.2⟩)
      ⟨⟨_, hc0⟩, fun h => by have := H0.out; show ((0 : Nat) : Int) < most; omega⟩
      (fun x => { tmps := #[.pointer (some ⟨ix, 0, none⟩), strV fr, strV to, .int .i64 most, undef, undef, undef, .pointer (some ⟨w.heap.size, 0, none⟩), .slice none 0 0, .pointer (some ⟨w.heap.size + 1 + 1, 0, none⟩), strV x.1, .int .i64 x.2, .slice (some ⟨w.heap.size + 1, 0, none⟩) 0 0, .int .i64 most, .bool false, undef, .pointer (some ⟨ix, 0, none⟩), strV fr, strV to,
        .func (.func 34) #[] #[.pointer (some ⟨xb, 0, none⟩), .pointer (some ⟨fb, 0, none⟩), .pointer (some ⟨tb, 0, none⟩)], strV x.1, .int .i64 x.2, undef, undef, undef, undef, undef, undef, undef, undef, undef, undef, undef], defers := [] }) ?assign ?body ?done ?stop
    case own =>
      rcases hcolk k hk with rfl | rfl
      · exact ⟨fun e => by have := HI.out.lt e; omega, by omega, by omega⟩
      · exact ⟨fun e => by have := HI.out.lt e; omega, by omega, by omega⟩
    case assign =>
      intro d x W K hK
      gi_wp2
      exact hK
    case body =>
      rintro d pre x W ⟨⟨v, hv⟩, hlt⟩ hp
      obtain ⟨A, c, A', c', W2, rfl, hrun, hc9, hf9, hc7, hko, hkp, hcol⟩ := col_step hv (by omega) x (hlen pre hp)
      have hW9 : (W.alloc (.cells #[strV x.1, .int .i64 x.2] 54)).cell? ⟨w.heap.size + 1 + 1, 0, none⟩ = some (.slice A pre.length c) := (hv.b9.alloc _).cell 0
      have hV9 : W.cell? ⟨w.heap.size + 1 + 1, 0, none⟩ = some (.slice A pre.length c) := hv.b9.cell 0
      gi_wp2_with (gi_at_builtin; refine wpListIn_app rfl _ _ 29 rfl rfl rfl hrun ?_)
      · exfalso
        simp [strV] at h
      · exfalso
        exact h.elim (fun h => h rfl) (fun h => Nat.lt_irrefl 2 h)
      · have he : ((pre.length : Int) + 1) = most := by simpa using ‹((pre.length : Int) + 1 == most) = true›
        exact ⟨hko, rfl, ⟨_, hcol⟩, by rw [List.length_append]; show ((pre.length + 1 : Nat) : Int) = most; omega⟩
      · have he : ¬ ((pre.length : Int) + 1) = most := by simpa using ‹((pre.length : Int) + 1 == most) = false›
        exact ⟨hko, hkp, ⟨_, hcol⟩, fun h => by
          have := hlt h
          rw [List.length_append]
          show ((pre.length + 1 : Nat) : Int) < most
          omega⟩
    case done =>
      rintro D ys W hD rfl ⟨⟨v, hv⟩, hlt⟩ hK
      have hc := hv.b9.cell 0
      have hc' : W.cell? ⟨w.heap.size + 1 + 1, 0, none⟩ = some v := hc
      gi_wp2
      refine ⟨by simp, .inl ⟨_, _, rfl, run_takeDeferred hK, ?_⟩⟩
      exact ⟨_, results_tmp rfl _ _ _, v, rfl, by rw [cut_all hlt]; exact (hv.own h9 (grownBy_putObj' W D _) fun r e => by cases e; exact ⟨hD, _, hK, rfl⟩).row, HFIN.out W D hD hv.kp⟩
    case stop =>
      rintro D c pre W hD hS ⟨rfl, ⟨v, hv⟩, hl⟩ hK
      have hc' : W.cell? ⟨w.heap.size + 1 + 1, 0, none⟩ = some v := hv.b9.cell 0
      gi_wp2
      refine ⟨by simp, .inl ⟨_, _, rfl, run_takeDeferred hK, ?_⟩⟩
      exact ⟨_, results_tmp rfl _ _ _, v, rfl, by rw [cut_pre hS hl]; exact (hv.own h9 (grownBy_putObj' W D _) fun r e => by cases e; exact ⟨hD, _, hK, rfl⟩).row, HFIN.out W D hD hv.kp⟩
end Go.Proofs.Ytmlkdkbpbleilaa
