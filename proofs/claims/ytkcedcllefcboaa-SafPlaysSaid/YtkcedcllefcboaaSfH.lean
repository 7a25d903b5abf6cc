/-
  saf's reference: Done, Put: the walks. No conditions.
-/
import Derived.Test.YtkcedcllefcboaaSfG
namespace Go.Proofs.Ytkcedcllefcboaa
open Go.RowKit
set_option linter.unusedVariables false
set_option linter.unusedSimpArgs false
set_option maxRecDepth 20000
/-- two may come up: either way -/
theorem alw_two {P : Program} {md : Region.Mode} {ops : Array Oper} {Q : Exit → Act → World → Prop} {S : World → Prop} {i k : Nat} {oi ok : Oper} {n : Nat} {l : Array Bool} {a : Act} {w : World} (hr : Region.ready md ops l = [i, k]) (hi : ops.toList[i]? = some oi) (hk : ops.toList[k]? = some ok)
    (wi : Region.wanted oi (yielded ops a.tmps) = true) (wk : Region.wanted ok (yielded ops a.tmps) = true)
    (hA : ∀ K : Act → World → Prop, Shut (∀ a' w', (S w' ∧ Alw P md ops Q S n (l.setIfInBounds i true) a' w') → K a' w') → oi.wp P a w K Q)
    (hB : ∀ K : Act → World → Prop, Shut (∀ a' w', (S w' ∧ Alw P md ops Q S n (l.setIfInBounds k true) a' w') → K a' w') → ok.wp P a w K Q) : Alw P md ops Q S (n + 1) l a w := by
  have ho : ops[i]? = some oi := by rw [← hi, Array.getElem?_toList]
  have hok : ops[k]? = some ok := by rw [← hk, Array.getElem?_toList]
  refine ⟨fun h0 => (by rw [h0] at hr; cases hr), fun j hj => ?_⟩
  rw [hr] at hj
  have hj2 : j = i ∨ j = k := by simpa using hj
  rcases hj2 with rfl | rfl
  · unfold wpOp
    simp only [ho, wi, if_true]
    exact .inl (hA _ fun _ _ h' => h')
  · unfold wpOp
    simp only [hok, wk, if_true]
    exact .inl (hB _ fun _ _ h' => h')
theorem own_madeQ {w wx : World} (hT : Turn nowhere w wx) : Fr (wx.alloc (.cells #[] 41)) w.heap.size (.slice (some ⟨wx.heap.size, 0, none⟩) 0 0) [] := ⟨Fit.nil 2, World.ownsRow_made wx #[] 0 hT.size (by unfold maxLen; omega) rfl⟩
theorem own_appQ {w wx : World} {g : Nat} {A : Option Addr} {n c : Nat} {fs : List Fld} (hrow : Fr wx w.heap.size (.slice (some ⟨g, 0, none⟩) 0 0) []) (hT : Turn nowhere w wx) (hf : Fq w A n fs) (hz : A = none → c = 0) :
    ∃ A' c' w', (Builtin.append_ #[33, 33] 33 #[.slice (some ⟨g, 0, none⟩) 0 0, .slice A n c]).run Try.prog wx = .ok (.slice A' n c') w' ∧ Fr w' w.heap.size (.slice A' n c') fs ∧ Turn nowhere w w' ∧ wx.grownBy w' (some g) := by
  have hm := hf.2
  obtain ⟨A', c', w', h1, h2, h3, _⟩ := orw_grow elmF (ty := 33) (c := c) hrow hT.size (hf.still hT).1 (fit_fs fs) hz (by simp; omega)
  have hl : (([] : List Fld).map fldL).length + n = n := by simp
  rw [hl] at h1 h2
  refine ⟨A', c', w', h1, h2, hT.grown h3 fun q e hq => ?_, h3⟩
  have := (Orw.lt hrow e).1
  omega
theorem own_endQ {w w6 w7 : World} {g : Nat} {v : Value} {fs : List Fld} {cs : Array Value} (hro : Fr w6 w.heap.size v fs) (hb6 : Blk w6 g 35 cs) (ht : Turn nowhere w w6) (hg : w.heap.size ≤ g) (h7 : Turn (only g) w6 w7) : Fr w7 w.heap.size v fs ∧ Turn nowhere w w7 ∧ w.heap.size ≤ g :=
  ⟨Orw.turn hro h7 (fun q hq e => Orw.ne hro hb6 (by decide) q hq e), newer ht hg h7, hg⟩
/-- two may come up: either way; S is owed until k -/
theorem till_two {P : Program} {md : Region.Mode} {ops : Array Oper} {Q : Exit → Act → World → Prop} {S : World → Prop} {i j k : Nat} {oi oj : Oper} {n : Nat} {l : Array Bool} {a : Act} {w : World} (hr : Region.ready md ops l = [i, j]) (hi : ops.toList[i]? = some oi) (hj : ops.toList[j]? = some oj)
    (wi : Region.wanted oi (yielded ops a.tmps) = true) (wj : Region.wanted oj (yielded ops a.tmps) = true)
    (hA : ∀ K : Act → World → Prop, Shut (∀ a' w', (((l.setIfInBounds i true).getD k true = false → S w') ∧ Till P md ops Q S k n (l.setIfInBounds i true) a' w') → K a' w') → oi.wp P a w K Q)
    (hB : ∀ K : Act → World → Prop, Shut (∀ a' w', (((l.setIfInBounds j true).getD k true = false → S w') ∧ Till P md ops Q S k n (l.setIfInBounds j true) a' w') → K a' w') → oj.wp P a w K Q) : Till P md ops Q S k (n + 1) l a w := by
  have ho : ops[i]? = some oi := by rw [← hi, Array.getElem?_toList]
  have hoj : ops[j]? = some oj := by rw [← hj, Array.getElem?_toList]
  refine ⟨fun h0 => (by rw [h0] at hr; cases hr), fun q hq => ?_⟩
  rw [hr] at hq
  have hq2 : q = i ∨ q = j := by simpa using hq
  rcases hq2 with rfl | rfl
  · unfold wpOp
    simp only [ho, wi, if_true]
    exact .inl (hA _ fun _ _ h' => h')
  · unfold wpOp
    simp only [hoj, wj, if_true]
    exact .inl (hB _ fun _ _ h' => h')
section
variable {P : Program} {st et : TypeId} {k by_ : Nat} {z : Value}
theorem orw_made {W1 w : World} (hT : Turn nowhere W1 w) : Orw (w.alloc (.cells #[] et)) W1.heap.size et k (.slice (some ⟨w.heap.size, 0, none⟩) 0 0) [] := ⟨Fit.nil k, World.ownsRow_made w #[] 0 hT.size (by unfold maxLen; omega) (by simp)⟩
theorem orw_onto (E : Elm P st et k by_ z) {W1 w : World} {e n c : Nat} {A : Option Addr} {rs : List (List Value)} {ty : TypeId} (h : Orw w W1.heap.size et k (.slice (some ⟨e, 0, none⟩) 0 0) []) (hT : Turn nowhere W1 w) (hb : Rws w k A n rs) (hf : Fit k rs) (hc : A = none → c = 0) (hm : n * by_ ≤ 140737488355328) :
    ∃ A' c' w', (Builtin.append_ #[st, st] ty #[.slice (some ⟨e, 0, none⟩) 0 0, .slice A n c]).run P w = .ok (.slice A' n c') w' ∧ Orw w' W1.heap.size et k (.slice A' n c') rs ∧ Turn nowhere W1 w' ∧ w.grownBy w' (some e) := by
  obtain ⟨A', c', w', h1, h2, h3, _⟩ := orw_grow E (ty := ty) (c := c) h hT.size hb hf hc (by simpa using hm)
  have hl : ([] : List (List Value)).length + n = n := by simp
  rw [hl] at h1 h2
  refine ⟨A', c', w', h1, h2, hT.grown h3 fun q e9 hq => ?_, h3⟩
  have := (h.lt e9).1
  omega
end
/-- a queue with one more -/
theorem RQue.more {w w' : World} {Z Z' : Nat → Prop} {y m : Nat} {l : List Adv} {s : Bool} {xs : List Adx} {x : Adx} {A : Option Addr} {c B : Nat} (hoff : ∀ k t cur, Blk w k t cur → t ≠ 59 → ¬ only y k) (hx : xs.map Adx.pl = l) (hz : ∀ z ∈ xs, Fz w Z z) (hm : l.length < m) (hmax : 1 ≤ m ∧ m ≤ 16)
    (hb : Blk w' y 59 #[.int .i64 (m : Int), .slice A (l.length + 1) c, .bool s]) (ho : Orw w' B 66 3 (.slice A (l.length + 1) c) (xs.map Adx.cs ++ [x.cs])) (hn : Fz w' Z' x) (ht : Turn (only y) w w') (hZ : ∀ k, Z k → Z' k) : RQue w' Z' y m (l ++ [x.pl]) s := by
  have hl : (l ++ [x.pl]).length = l.length + 1 := by rw [List.length_append]; rfl
  refine ⟨⟨A, c, xs ++ [x], by rw [hl]; exact hb, by rw [hl, List.map_append]; exact ho.less (Nat.zero_le _), by rw [List.map_append, hx]; rfl, fun z9 hz9 => ?_⟩, by rw [hl]; omega, hmax, fun _ => by simp⟩
  rcases List.mem_append.1 hz9 with h | h
  · exact ((hz z9 h).turn ht fun k cur hk _ e => hoff k _ cur hk (by decide) e).mono fun k _ hk => hZ k hk
  · obtain rfl : z9 = x := by simpa using h
    exact hn
theorem rbuild_ad (nm : List UInt8) (ty : Int) (A : Option Addr) (n c : Nat) (W : World) : (Instr.build 66 #[(0, strV nm), (1, .agg #[.int .i64 ty, .slice A n c])]).run Try.prog W = .ok (.agg #[strV nm, .int .i64 ty, .slice A n c]) W := by kernel_rfl
set_option maxRecDepth 20000 in
set_option maxHeartbeats 600000 in
theorem rDone_no {w : World} {Z : Nat → Prop} {y m : Nat} {l : List Adv} {s : Bool} (q : RQue w Z y m l s) {nm : List UInt8} (hs : Sf.canDone l s nm = false) : Calls Try.prog 20 #[.pointer (some ⟨y, 0, none⟩), strV nm] w fun e w' => e = .returned (.bool false) ∧ w' = w := by
  obtain ⟨⟨A, c, xs, hb, hr, hx, hz⟩, hlen, hmax, hway⟩ := q
  obtain ⟨n, hn⟩ : ∃ n, n = l.length := ⟨_, rfl⟩
  rw [← hn] at hb hr hlen
  have hxl : xs.length = n := by rw [hn, ← hx, List.length_map]
  have HB := Lib.hid hb
  have HFX := Lib.hid (show s = true → ∃ (x : Adx) (b off : Nat), A = some ⟨b, off, none⟩ ∧ 0 < n ∧ w.rangeAt b off x.cs ∧ (x.nm == nm) = false from fun e => by
    have hrw := hr.rws (by rw [List.length_map]; omega) (by decide)
    cases hl : l with
    | nil => exact absurd hl (hway e)
    | cons v9 r' =>
      cases hxs : xs with
      | nil => rw [hxs] at hx; rw [hl] at hx; cases hx
      | cons x xs' =>
        obtain ⟨b, off, hA, hat⟩ := ad_at (j := 0) (x := x) hrw (by rw [hxs]; rfl)
        rw [Nat.zero_mul, Nat.add_zero] at hat
        refine ⟨x, b, off, hA, by rw [← hxl, hxs]; exact Nat.succ_pos _, hat, beq_eq_false_iff_ne.2 fun e2 => ?_⟩
        rw [hxs, hl, List.map_cons] at hx
        injection hx with hx1 _
        unfold Sf.canDone at hs
        rw [e, hl, ← hx1] at hs
        simp [Adx.pl, e2] at hs)
  clear hb hr hx hz hlen hmax hway hn hxl hs
  go_enter Try.func20, Try.ntmps20
  go_upto_region 0 with fail
  refine wp_region_lit ?_
  refine wpList_run (v := .bool false) (wanted_none rfl) (gx_assign rfl rfl) ?_
  simp only [Act.put, List.setIfInBounds_toArray, List.set_cons_zero, List.set_cons_succ]
  by_cases hsb : s = true
  · obtain ⟨x, b, off, rfl, hn1, hat, hne⟩ := HFX.out hsb
    subst hsb
    have HAT := Lib.hid hat
    have HN1 := Lib.hid hn1
    have HNE := Lib.hid hne
    clear hat hn1 hne HFX
    go_upto_region 1 with fail
    refine wp_region_lit ?_
    refine wpList_run (v := .pointer (some ⟨y, 0, none⟩)) (wanted_none rfl) (exec_move rfl rfl) ?_
    simp only [Act.put, List.setIfInBounds_toArray, List.set_cons_zero, List.set_cons_succ]
    refine wpList_run (v := .pointer (some ⟨y, 0, none⟩)) (wanted_none rfl) (exec_nil rfl rfl) ?_
    simp only [Act.put, List.setIfInBounds_toArray, List.set_cons_zero, List.set_cons_succ]
    refine wpList_run (v := .pointer (some ⟨y, 2, none⟩)) (wanted_none rfl) (exec_field (off := 0) (d := 2) rfl rfl (by kernel_rfl)) ?_
    simp only [Act.put, List.setIfInBounds_toArray, List.set_cons_zero, List.set_cons_succ]
    refine wpList_run (v := .bool true) (wanted_none rfl) (exec_load1 rfl rfl (by kernel_rfl) (HB.out.cell 2)) ?_
    simp only [Act.put, List.setIfInBounds_toArray, List.set_cons_zero, List.set_cons_succ]
    refine wpList_run (v := .bool false) (wanted_none rfl) (ix_not (b := true) rfl rfl) ?_
    simp only [Act.put, List.setIfInBounds_toArray, List.set_cons_zero, List.set_cons_succ]
    refine wpList_run (v := .bool false) (wanted_none rfl) (exec_move rfl rfl) ?_
    simp only [Act.put, List.setIfInBounds_toArray, List.set_cons_zero, List.set_cons_succ]
    refine wpList_run (v := .pointer (some ⟨y, 0, none⟩)) rfl (exec_move rfl rfl) ?_
    simp only [Act.put, List.setIfInBounds_toArray, List.set_cons_zero, List.set_cons_succ]
    refine wpList_run (v := .pointer (some ⟨y, 0, none⟩)) rfl (exec_nil rfl rfl) ?_
    simp only [Act.put, List.setIfInBounds_toArray, List.set_cons_zero, List.set_cons_succ]
    refine wpList_run (v := .pointer (some ⟨y, 1, none⟩)) rfl (exec_field (off := 0) (d := 1) rfl rfl (by kernel_rfl)) ?_
    simp only [Act.put, List.setIfInBounds_toArray, List.set_cons_zero, List.set_cons_succ]
    refine wpList_run (v := .slice (some ⟨b, off, none⟩) n c) rfl (exec_load1 rfl rfl (by kernel_rfl) (HB.out.cell 1)) ?_
    simp only [Act.put, List.setIfInBounds_toArray, List.set_cons_zero, List.set_cons_succ]
    refine wpList_run (v := .pointer (some ⟨b, off, none⟩)) rfl (gx_iaddr (i := 0) (sz := 3) rfl rfl rfl Try.underlying57 size_ra HN1.out (by omega)) ?_
    simp only [Act.put, List.setIfInBounds_toArray, List.set_cons_zero, List.set_cons_succ]
    refine wpList_run (v := .pointer (some ⟨b, off, none⟩)) rfl (exec_field (off := off) (d := 0) rfl rfl (by kernel_rfl)) ?_
    simp only [Act.put, List.setIfInBounds_toArray, List.set_cons_zero, List.set_cons_succ]
    refine wpList_run (v := strV x.nm) rfl (exec_load1 rfl rfl (by kernel_rfl) (HAT.out 0 _ rfl)) ?_
    simp only [Act.put, List.setIfInBounds_toArray, List.set_cons_zero, List.set_cons_succ]
    refine wpList_run (v := strV nm) rfl (exec_move rfl rfl) ?_
    simp only [Act.put, List.setIfInBounds_toArray, List.set_cons_zero, List.set_cons_succ]
    refine wpList_run (v := .bool true) rfl ((exec_sneq rfl rfl rfl).trans (by rw [HNE.out]; rfl)) ?_
    simp only [Act.put, List.setIfInBounds_toArray, List.set_cons_zero, List.set_cons_succ]
    refine wpList_run (v := .bool true) (wanted_none rfl) (ix_pickF rfl rfl rfl) ?_
    simp only [Act.put, List.setIfInBounds_toArray, List.set_cons_zero, List.set_cons_succ]
    go_upto_region 2 with fail
    refine wp_region_lit ?_
    refine wpList_run (v := .bool false) (wanted_none rfl) (gx_assign rfl rfl) ?_
    simp only [Act.put, List.setIfInBounds_toArray, List.set_cons_zero, List.set_cons_succ]
    go_wp2_with fail
    go_ret
    exact ⟨rfl, rfl⟩
  · have hsf : s = false := by simpa using hsb
    subst hsf
    clear hsb HFX
    go_upto_region 1 with fail
    first
    | (rename_i K9 hK9; have HKC := Lib.hid hK9; clear hK9)
    | (rename_i K9 hK9 K8; have HKC := Lib.hid hK9; clear hK9)
    refine wp_region_lit ?_
    refine wpList_run (v := .pointer (some ⟨y, 0, none⟩)) (wanted_none rfl) (exec_move rfl rfl) ?_
    simp only [Act.put, List.setIfInBounds_toArray, List.set_cons_zero, List.set_cons_succ]
    refine wpList_run (v := .pointer (some ⟨y, 0, none⟩)) (wanted_none rfl) (exec_nil rfl rfl) ?_
    simp only [Act.put, List.setIfInBounds_toArray, List.set_cons_zero, List.set_cons_succ]
    refine wpList_run (v := .pointer (some ⟨y, 2, none⟩)) (wanted_none rfl) (exec_field (off := 0) (d := 2) rfl rfl (by kernel_rfl)) ?_
    simp only [Act.put, List.setIfInBounds_toArray, List.set_cons_zero, List.set_cons_succ]
    refine wpList_run (v := .bool false) (wanted_none rfl) (exec_load1 rfl rfl (by kernel_rfl) (HB.out.cell 2)) ?_
    simp only [Act.put, List.setIfInBounds_toArray, List.set_cons_zero, List.set_cons_succ]
    refine wpList_run (v := .bool true) (wanted_none rfl) (ix_not (b := false) rfl rfl) ?_
    simp only [Act.put, List.setIfInBounds_toArray, List.set_cons_zero, List.set_cons_succ]
    refine wpList_run (v := .bool true) (wanted_none rfl) (exec_move rfl rfl) ?_
    simp only [Act.put, List.setIfInBounds_toArray, List.set_cons_zero, List.set_cons_succ]
    go_wp2_with fail
    refine HKC.out _ _ ?_
    clear HKC
    go_upto_region 2 with fail
    refine wp_region_lit ?_
    refine wpList_run (v := .bool false) (wanted_none rfl) (gx_assign rfl rfl) ?_
    simp only [Act.put, List.setIfInBounds_toArray, List.set_cons_zero, List.set_cons_succ]
    go_wp2_with fail
    go_ret
    exact ⟨rfl, rfl⟩
set_option maxRecDepth 20000 in
set_option maxHeartbeats 600000 in
theorem rDone_yes {w : World} {Z : Nat → Prop} {y m : Nat} {v9 : Adv} {r' : List Adv} (q : RQue w Z y m (v9 :: r') true) : Calls Try.prog 20 #[.pointer (some ⟨y, 0, none⟩), strV v9.1] w fun e w' => e = .returned (.bool true) ∧ RQue w' Z y m r' false ∧ Turn (only y) w w' := by
  obtain ⟨l, hl⟩ : ∃ l, l = v9 :: r' := ⟨_, rfl⟩
  rw [← hl] at q
  have hoff := q.off
  obtain ⟨⟨A, c, xs, hb, hr, hx, hz⟩, hlen, hmax, hway⟩ := q
  obtain ⟨n, hn⟩ : ∃ n, n = l.length := ⟨_, rfl⟩
  rw [← hn] at hb hr hlen
  have hxl : xs.length = n := by rw [hn, ← hx, List.length_map]
  obtain ⟨x, xs', hxs⟩ : ∃ x xs', xs = x :: xs' := by
    cases xs with
    | nil => rw [← hx] at hl; cases hl
    | cons x xs' => exact ⟨x, xs', rfl⟩
  have hxy : x.pl = v9 ∧ xs'.map Adx.pl = r' := by
    rw [hxs, List.map_cons, hl] at hx
    injection hx with h1 h2
    exact ⟨h1, h2⟩
  have hfz := hz x (by rw [hxs]; exact List.mem_cons_self ..)
  have hrw := hr.rws (by rw [List.length_map]; omega) (by decide)
  obtain ⟨b, off, rfl, hat⟩ := ad_at (j := 0) (x := x) hrw (by rw [hxs]; rfl)
  rw [Nat.zero_mul, Nat.add_zero] at hat
  have hn1 : 0 < n := by rw [← hxl, hxs]; exact Nat.succ_pos _
  have HB := Lib.hid hb
  have HAT := Lib.hid hat
  have HN1 := Lib.hid hn1
  have hrl : r'.length = n - 1 := by rw [hn, hl]; rfl
  have hcc : n ≤ c := by
    obtain ⟨A9, c9, e9, h9, _⟩ := hr.form
    rw [List.length_map, hxl] at e9 h9
    injection e9 with _ _ e9
    omega
  have hdr : (xs.map Adx.cs).drop 1 = xs'.map Adx.cs := by rw [hxs]; rfl
  have hon := orw_made (et := 66) (k := 3) (Turn.refl nowhere w)
  have hta := (Turn.refl nowhere w).alloc (.cells #[] 66)
  obtain ⟨A2, c2, w2, hrun, how, ht2, _⟩ := orw_onto elmR (ty := 57) (c := c - 1) hon hta ((rws_from (d := 1) hrw (by omega) hcc).still hta) (by rw [hdr]; exact fit_ad xs') (fun e => by
    unfold fromK at e
    split at e
    · cases e
    · cases e) (by omega)
  have HCC := Lib.hid hcc
  have HRUN := Lib.hid hrun
  have HB2 := Lib.hid (hb.turn ht2 fun e => e)
  have HT2 := Lib.hid ht2
  have HEND := Lib.hid (show ∀ w', Blk w' y 59 #[.int .i64 (m : Int), .slice A2 (n - 1) c2, .bool false] → Turn (only y) w2 w' → RQue w' Z y m r' false from fun w' h1 h2 => by
    have hfar : ∀ b2, (Value.slice A2 (n - 1) c2).ownBlock = some b2 → only y b2 → False := fun b2 hb2 e => by
      have := (how.lt hb2).1
      have e : b2 = y := e
      have := hb.lt
      omega
    have h3 : Turn (only y) w w' := (ht2.mono fun _ _ e => e.elim).trans h2 fun _ _ e => e
    exact ⟨⟨A2, c2, xs', by rw [hrl]; exact h1, by rw [hrl, ← hdr]; exact (how.less (Nat.zero_le _)).turn h2 fun b2 hb2 e => hfar b2 hb2 e, hxy.2, fun z9 hz9 => (hz z9 (by rw [hxs]; exact List.mem_cons_of_mem _ hz9)).turn h3 fun k cur hk _ e => hoff k _ cur hk (by decide) e⟩, by omega, hmax, fun e => by cases e⟩)
  have HNM := Lib.hid (show (x.nm == v9.1) = true from by rw [← hxy.1]; exact beq_self_eq_true _)
  clear hb hr hx hz hlen hmax hway hn hxl hl hxs hxy hfz hrw hat hn1 hrl hdr hon hta hrun how ht2 hoff hcc
  go_enter Try.func20, Try.ntmps20
  go_upto_region 0 with fail
  refine wp_region_lit ?_
  refine wpList_run (v := .bool false) (wanted_none rfl) (gx_assign rfl rfl) ?_
  simp only [Act.put, List.setIfInBounds_toArray, List.set_cons_zero, List.set_cons_succ]
  go_upto_region 1 with fail
  refine wp_region_lit ?_
  refine wpList_run (v := .pointer (some ⟨y, 0, none⟩)) (wanted_none rfl) (exec_move rfl rfl) ?_
  simp only [Act.put, List.setIfInBounds_toArray, List.set_cons_zero, List.set_cons_succ]
  refine wpList_run (v := .pointer (some ⟨y, 0, none⟩)) (wanted_none rfl) (exec_nil rfl rfl) ?_
  simp only [Act.put, List.setIfInBounds_toArray, List.set_cons_zero, List.set_cons_succ]
  refine wpList_run (v := .pointer (some ⟨y, 2, none⟩)) (wanted_none rfl) (exec_field (off := 0) (d := 2) rfl rfl (by kernel_rfl)) ?_
  simp only [Act.put, List.setIfInBounds_toArray, List.set_cons_zero, List.set_cons_succ]
  refine wpList_run (v := .bool true) (wanted_none rfl) (exec_load1 rfl rfl (by kernel_rfl) (HB.out.cell 2)) ?_
  simp only [Act.put, List.setIfInBounds_toArray, List.set_cons_zero, List.set_cons_succ]
  refine wpList_run (v := .bool false) (wanted_none rfl) (ix_not (b := true) rfl rfl) ?_
  simp only [Act.put, List.setIfInBounds_toArray, List.set_cons_zero, List.set_cons_succ]
  refine wpList_run (v := .bool false) (wanted_none rfl) (exec_move rfl rfl) ?_
  simp only [Act.put, List.setIfInBounds_toArray, List.set_cons_zero, List.set_cons_succ]
  refine wpList_run (v := .pointer (some ⟨y, 0, none⟩)) rfl (exec_move rfl rfl) ?_
  simp only [Act.put, List.setIfInBounds_toArray, List.set_cons_zero, List.set_cons_succ]
  refine wpList_run (v := .pointer (some ⟨y, 0, none⟩)) rfl (exec_nil rfl rfl) ?_
  simp only [Act.put, List.setIfInBounds_toArray, List.set_cons_zero, List.set_cons_succ]
  refine wpList_run (v := .pointer (some ⟨y, 1, none⟩)) rfl (exec_field (off := 0) (d := 1) rfl rfl (by kernel_rfl)) ?_
  simp only [Act.put, List.setIfInBounds_toArray, List.set_cons_zero, List.set_cons_succ]
  refine wpList_run (v := .slice (some ⟨b, off, none⟩) n c) rfl (exec_load1 rfl rfl (by kernel_rfl) (HB.out.cell 1)) ?_
  simp only [Act.put, List.setIfInBounds_toArray, List.set_cons_zero, List.set_cons_succ]
  refine wpList_run (v := .pointer (some ⟨b, off, none⟩)) rfl (gx_iaddr (i := 0) (sz := 3) rfl rfl rfl Try.underlying57 size_ra HN1.out (by omega)) ?_
  simp only [Act.put, List.setIfInBounds_toArray, List.set_cons_zero, List.set_cons_succ]
  refine wpList_run (v := .pointer (some ⟨b, off, none⟩)) rfl (exec_field (off := off) (d := 0) rfl rfl (by kernel_rfl)) ?_
  simp only [Act.put, List.setIfInBounds_toArray, List.set_cons_zero, List.set_cons_succ]
  refine wpList_run (v := strV x.nm) rfl (exec_load1 rfl rfl (by kernel_rfl) (HAT.out 0 _ rfl)) ?_
  simp only [Act.put, List.setIfInBounds_toArray, List.set_cons_zero, List.set_cons_succ]
  refine wpList_run (v := strV v9.1) rfl (exec_move rfl rfl) ?_
  simp only [Act.put, List.setIfInBounds_toArray, List.set_cons_zero, List.set_cons_succ]
  refine wpList_run (v := .bool false) rfl ((exec_sneq rfl rfl rfl).trans (by rw [HNM.out]; rfl)) ?_
  simp only [Act.put, List.setIfInBounds_toArray, List.set_cons_zero, List.set_cons_succ]
  refine wpList_run (v := .bool false) (wanted_none rfl) (ix_pickF rfl rfl rfl) ?_
  simp only [Act.put, List.setIfInBounds_toArray, List.set_cons_zero, List.set_cons_succ]
  go_upto_region 3 with fail
  refine wp_region_lit ?_
  refine wpList_run (v := .pointer (some ⟨y, 0, none⟩)) (wanted_none rfl) (exec_move rfl rfl) ?_
  simp only [Act.put, List.setIfInBounds_toArray, List.set_cons_zero, List.set_cons_succ]
  refine wpList_run (v := .slice (some ⟨w.heap.size, 0, none⟩) 0 0) (w' := w.alloc (.cells #[] 66)) (wanted_none rfl) (bx_slice0 rfl (build0_ra _)) ?_
  simp only [Act.put, List.setIfInBounds_toArray, List.set_cons_zero, List.set_cons_succ]
  have HBA := Lib.hid (HB.out.alloc (.cells #[] 66))
  refine wpList_run (v := .pointer (some ⟨y, 0, none⟩)) (wanted_none rfl) (exec_move rfl rfl) ?_
  simp only [Act.put, List.setIfInBounds_toArray, List.set_cons_zero, List.set_cons_succ]
  refine wpList_run (v := .pointer (some ⟨y, 0, none⟩)) (wanted_none rfl) (exec_nil rfl rfl) ?_
  simp only [Act.put, List.setIfInBounds_toArray, List.set_cons_zero, List.set_cons_succ]
  refine wpList_run (v := .pointer (some ⟨y, 1, none⟩)) (wanted_none rfl) (exec_field (off := 0) (d := 1) rfl rfl (by kernel_rfl)) ?_
  simp only [Act.put, List.setIfInBounds_toArray, List.set_cons_zero, List.set_cons_succ]
  refine wpList_run (v := .slice (some ⟨b, off, none⟩) n c) (wanted_none rfl) (exec_load1 rfl rfl (by kernel_rfl) (HBA.out.cell 1)) ?_
  simp only [Act.put, List.setIfInBounds_toArray, List.set_cons_zero, List.set_cons_succ]
  refine wpList_run (v := .slice (fromK 3 (some ⟨b, off, none⟩) c 1) (n - 1) (c - 1)) (wanted_none rfl) (exec_slice rfl rfl rfl rfl rfl (sl_from elmR _ _ _ 1 HN1.out HCC.out _)) ?_
  simp only [Act.put, List.setIfInBounds_toArray, List.set_cons_zero, List.set_cons_succ]
  refine wpList_run (v := .slice A2 (n - 1) c2) (w' := w2) (wanted_none rfl) (exec_append rfl rfl rfl HRUN.out) ?_
  simp only [Act.put, List.setIfInBounds_toArray, List.set_cons_zero, List.set_cons_succ]
  refine wpList_run (v := .pointer (some ⟨y, 0, none⟩)) (wanted_none rfl) (exec_nil rfl rfl) ?_
  simp only [Act.put, List.setIfInBounds_toArray, List.set_cons_zero, List.set_cons_succ]
  refine wpList_run (v := .pointer (some ⟨y, 1, none⟩)) (wanted_none rfl) (exec_field (off := 0) (d := 1) rfl rfl (by kernel_rfl)) ?_
  simp only [Act.put, List.setIfInBounds_toArray, List.set_cons_zero, List.set_cons_succ]
  refine wpList_storeU 1 (.slice A2 (n - 1) c2) (wanted_none rfl) 57 _ _ rfl HB2.out rfl rfl (by show 1 < 3; omega) ⟨rfl, rfl⟩ (by kernel_rfl) ?_
  intro w3 hb3 ht3
  simp only [Act.put, List.setIfInBounds_toArray, List.set_cons_zero, List.set_cons_succ]
  have HB3 := Lib.hid (show Blk w3 y 59 #[.int .i64 (m : Int), .slice A2 (n - 1) c2, .bool true] from hb3)
  have HT3 := Lib.hid ht3
  clear hb3 ht3
  go_upto_region 4 with fail
  refine wp_region_lit ?_
  refine wpList_run (v := .pointer (some ⟨y, 0, none⟩)) (wanted_none rfl) (exec_move rfl rfl) ?_
  simp only [Act.put, List.setIfInBounds_toArray, List.set_cons_zero, List.set_cons_succ]
  refine wpList_run (v := .pointer (some ⟨y, 0, none⟩)) (wanted_none rfl) (exec_nil rfl rfl) ?_
  simp only [Act.put, List.setIfInBounds_toArray, List.set_cons_zero, List.set_cons_succ]
  refine wpList_run (v := .pointer (some ⟨y, 2, none⟩)) (wanted_none rfl) (exec_field (off := 0) (d := 2) rfl rfl (by kernel_rfl)) ?_
  simp only [Act.put, List.setIfInBounds_toArray, List.set_cons_zero, List.set_cons_succ]
  refine wpList_storeU 2 (.bool false) (wanted_none rfl) 4 _ _ rfl HB3.out rfl rfl (by show 2 < 3; omega) ⟨rfl, rfl⟩ size_bool ?_
  intro w4 hb4 ht4
  simp only [Act.put, List.setIfInBounds_toArray, List.set_cons_zero, List.set_cons_succ]
  have HT4 := Lib.hid (HT3.out.trans ht4 fun _ _ e => e)
  have HF := Lib.hid (HEND.out w4 hb4 HT4.out)
  have HTE := Lib.hid ((HT2.out.mono (G := only y) fun _ _ e => e.elim).trans HT4.out fun _ _ e => e)
  clear hb4 ht4
  go_upto_region 5 with fail
  refine wp_region_lit ?_
  refine wpList_run (v := .bool true) (wanted_none rfl) (gx_assign rfl rfl) ?_
  simp only [Act.put, List.setIfInBounds_toArray, List.set_cons_zero, List.set_cons_succ]
  go_wp2_with fail
  go_ret
  exact ⟨rfl, HF.out, HTE.out⟩
set_option maxRecDepth 20000 in
set_option maxHeartbeats 600000 in
theorem rPut_twice {w : World} {Z : Nat → Prop} {y m : Nat} {l : List Adv} {s : Bool} (q : RQue w Z y m l s) (nm : List UInt8) (ty : Int) (FA9 : Option Addr) (fn fc : Nat) (hh : nm ∈ Sf.names l) : Calls Try.prog 13 #[.pointer (some ⟨y, 0, none⟩), strV nm, msgV ty FA9 fn fc] w fun e w' => e = .returned (.int .i64 161) ∧ Turn nowhere w w' := by
  obtain ⟨⟨A, c, xs, hb, hr, hx, hz⟩, hlen, hmax, hway⟩ := q
  obtain ⟨n, hn⟩ : ∃ n, n = l.length := ⟨_, rfl⟩
  rw [← hn] at hb hr hlen
  have hxl : xs.length = n := by rw [hn, ← hx, List.length_map]
  have hrw := hr.rws (by rw [List.length_map]; omega) (by decide)
  have HB := Lib.hid hb
  have HRW := Lib.hid hrw
  have HX := Lib.hid hx
  have HXL := Lib.hid hxl
  have HN := Lib.hid hn
  have HH := Lib.hid hh
  have yn : n ≤ 16 := by omega
  have ym : m ≤ 16 := hmax.2
  clear hb hr hx hz hlen hmax hway hn hrw hxl hh
  unfold msgV
  go_enter Try.func13, Try.ntmps13
  go_upto_region 0 with fail
  refine wp_region_lit ?_
  refine wpList_run (v := .pointer (some ⟨(w).heap.size, 0, none⟩)) (w' := (w).alloc (.cells #[.int .i64 ty, .slice FA9 fn fc] 35)) (wanted_none rfl) (gx_box rfl rfl (box_msg ty FA9 fn fc _)) ?_
  simp only [Act.put, List.setIfInBounds_toArray, List.set_cons_zero, List.set_cons_succ]
  refine wpList_run (v := .int .i64 0) (wanted_none rfl) (gx_assign rfl rfl) ?_
  simp only [Act.put, List.setIfInBounds_toArray, List.set_cons_zero, List.set_cons_succ]
  have hb_mb := Blk.new (w) 35 #[.int .i64 ty, .slice FA9 fn fc]
  have ht_ := (Turn.refl nowhere (w)).alloc (.cells #[.int .i64 ty, .slice FA9 fn fc] 35)
  obtain ⟨n0_, hn0_⟩ : ∃ n, n = (w).heap.size := ⟨_, rfl⟩
  have hz_mb : (w).heap.size = n0_ + 0 := by rw [hn0_]; simp
  obtain ⟨mb, hg_⟩ : ∃ g, g = (w).heap.size := ⟨_, rfl⟩
  rw [← hg_] at hb_mb hz_mb ⊢
  clear hg_
  generalize (w).alloc (.cells #[.int .i64 ty, .slice FA9 fn fc] 35) = w1 at *
  have HT1 := Lib.hid ht_
  clear ht_
  have HBmb := Lib.hid hb_mb
  have HLmb := Lib.hid (show (w).heap.size ≤ mb from by omega)
  clear hb_mb
  clear hn0_ hz_mb
  clear n0_
  have HB1 := Lib.hid (HB.out.turn HT1.out fun e => e)
  go_upto_region 1 with fail
  refine wp_region_lit ?_
  refine wpList_run (v := .int .i64 0) (wanted_none rfl) (gx_assign rfl rfl) ?_
  simp only [Act.put, List.setIfInBounds_toArray, List.set_cons_zero, List.set_cons_succ]
  go_wp2_with fail
  go_loopg [7] n (fun gk iv wr => ∃ j : Nat, iv = .int .i64 (j : Int) ∧ j + gk = n ∧ wr = w1 ∧ ∀ i u, i < j → (Sf.names l)[i]? = some u → u ≠ nm)
  case atStart => exact ⟨0, rfl, by omega, rfl, fun i u hi => by omega⟩
  obtain ⟨j, rfl, hjl, rfl, hno⟩ := hrel
  have HJL := Lib.hid hjl
  have HNO := Lib.hid hno
  clear hjl hno
  by_cases hlt : j < n
  · have HLT := Lib.hid hlt
    have y1 : (j : Int) < (n : Int) := by omega
    obtain ⟨x, hx⟩ : ∃ x, xs[j]? = some x := ⟨xs[j]'(by rw [HXL.out]; omega), List.getElem?_eq_getElem (by rw [HXL.out]; omega)⟩
    obtain ⟨b, off, rfl, hat⟩ := ad_at (HRW.out.still HT1.out) hx
    have HAT := Lib.hid (hat 0 _ rfl)
    have HNJ := Lib.hid (show (Sf.names l)[j]? = some x.nm from by unfold Sf.names; rw [← HX.out, List.getElem?_map, List.getElem?_map, hx]; rfl)
    clear hat hx hlt
    go_upto_region 2 with fail
    refine wp_region_lit ?_
    refine wpList_run (v := .int .i64 (j : Int)) (wanted_none rfl) (exec_move rfl rfl) ?_
    simp only [Act.put, List.setIfInBounds_toArray, List.set_cons_zero, List.set_cons_succ]
    refine wpList_run (v := .pointer (some ⟨y, 0, none⟩)) (wanted_none rfl) (exec_move rfl rfl) ?_
    simp only [Act.put, List.setIfInBounds_toArray, List.set_cons_zero, List.set_cons_succ]
    refine wpList_run (v := .pointer (some ⟨y, 0, none⟩)) (wanted_none rfl) (exec_nil rfl rfl) ?_
    simp only [Act.put, List.setIfInBounds_toArray, List.set_cons_zero, List.set_cons_succ]
    refine wpList_run (v := .pointer (some ⟨y, 1, none⟩)) (wanted_none rfl) (exec_field (off := 0) (d := 1) rfl rfl (by kernel_rfl)) ?_
    simp only [Act.put, List.setIfInBounds_toArray, List.set_cons_zero, List.set_cons_succ]
    refine wpList_run (v := .slice (some ⟨b, off, none⟩) n c) (wanted_none rfl) (exec_load1 rfl rfl (by kernel_rfl) (HB1.out.cell 1)) ?_
    simp only [Act.put, List.setIfInBounds_toArray, List.set_cons_zero, List.set_cons_succ]
    refine wpList_run (v := .int .i64 (n : Int)) (wanted_none rfl) (gx_len rfl rfl Try.underlying57) ?_
    simp only [Act.put, List.setIfInBounds_toArray, List.set_cons_zero, List.set_cons_succ]
    refine wpList_run (v := .bool true) (wanted_none rfl) (ix_lss rfl rfl rfl (decide_eq_true y1)) ?_
    simp only [Act.put, List.setIfInBounds_toArray, List.set_cons_zero, List.set_cons_succ]
    go_upto_region 4 with fail
    refine wp_region_lit ?_
    refine wpList_run (v := .pointer (some ⟨y, 0, none⟩)) (wanted_none rfl) (exec_move rfl rfl) ?_
    simp only [Act.put, List.setIfInBounds_toArray, List.set_cons_zero, List.set_cons_succ]
    refine wpList_run (v := .pointer (some ⟨y, 0, none⟩)) (wanted_none rfl) (exec_nil rfl rfl) ?_
    simp only [Act.put, List.setIfInBounds_toArray, List.set_cons_zero, List.set_cons_succ]
    refine wpList_run (v := .pointer (some ⟨y, 1, none⟩)) (wanted_none rfl) (exec_field (off := 0) (d := 1) rfl rfl (by kernel_rfl)) ?_
    simp only [Act.put, List.setIfInBounds_toArray, List.set_cons_zero, List.set_cons_succ]
    refine wpList_run (v := .slice (some ⟨b, off, none⟩) n c) (wanted_none rfl) (exec_load1 rfl rfl (by kernel_rfl) (HB1.out.cell 1)) ?_
    simp only [Act.put, List.setIfInBounds_toArray, List.set_cons_zero, List.set_cons_succ]
    refine wpList_run (v := .int .i64 (j : Int)) (wanted_none rfl) (exec_move rfl rfl) ?_
    simp only [Act.put, List.setIfInBounds_toArray, List.set_cons_zero, List.set_cons_succ]
    refine wpList_run (v := .pointer (some ⟨b, off + j * 3, none⟩)) (wanted_none rfl) (gx_iaddr (i := j) (sz := 3) rfl rfl rfl Try.underlying57 size_ra HLT.out (by omega)) ?_
    simp only [Act.put, List.setIfInBounds_toArray, List.set_cons_zero, List.set_cons_succ]
    refine wpList_run (v := .pointer (some ⟨b, off + j * 3, none⟩)) (wanted_none rfl) (exec_field (off := off + j * 3) (d := 0) rfl rfl (by kernel_rfl)) ?_
    simp only [Act.put, List.setIfInBounds_toArray, List.set_cons_zero, List.set_cons_succ]
    refine wpList_run (v := strV x.nm) (wanted_none rfl) (exec_load1 rfl rfl (by kernel_rfl) HAT.out) ?_
    simp only [Act.put, List.setIfInBounds_toArray, List.set_cons_zero, List.set_cons_succ]
    refine wpList_run (v := strV nm) (wanted_none rfl) (exec_move rfl rfl) ?_
    simp only [Act.put, List.setIfInBounds_toArray, List.set_cons_zero, List.set_cons_succ]
    refine wpList_run (v := .bool (x.nm == nm)) (wanted_none rfl) (exec_seql rfl rfl rfl) ?_
    simp only [Act.put, List.setIfInBounds_toArray, List.set_cons_zero, List.set_cons_succ]
    by_cases he : x.nm = nm
    · rw [beq_iff_eq.2 he]
      clear he
      go_upto_region 5 with fail
      refine wp_region_lit ?_
      refine wpList_run (v := .int .i64 161) (wanted_none rfl) (gx_assign rfl rfl) ?_
      simp only [Act.put, List.setIfInBounds_toArray, List.set_cons_zero, List.set_cons_succ]
      go_wp2_with fail
      go_ret
      exact ⟨rfl, HT1.out⟩
    · have HE := Lib.hid he
      rw [beq_eq_false_iff_ne.2 he]
      clear he
      go_upto_region 3 with fail
      refine wp_region_lit ?_
      refine wpList_run (v := .int .i64 (j : Int)) (wanted_none rfl) (exec_move rfl rfl) ?_
      simp only [Act.put, List.setIfInBounds_toArray, List.set_cons_zero, List.set_cons_succ]
      refine wpList_run (v := .int .i64 ((j + 1 : Nat) : Int)) (wanted_none rfl) (ix_add rfl rfl rfl (by omega) (by omega)) ?_
      simp only [Act.put, List.setIfInBounds_toArray, List.set_cons_zero, List.set_cons_succ]
      refine wpList_run (v := .int .i64 ((j + 1 : Nat) : Int)) (wanted_none rfl) (gx_assign rfl rfl) ?_
      simp only [Act.put, List.setIfInBounds_toArray, List.set_cons_zero, List.set_cons_succ]
      go_wp2_with fail
      go_roundg (gk - 1)
      case measure => have := HJL.out; have := HLT.out; omega
      case rel => exact ⟨j + 1, rfl, by have := HJL.out; have := HLT.out; omega, rfl, fun i u' hi hu' => by
        by_cases hij : i < j
        · exact HNO.out i u' hij hu'
        · obtain rfl : i = j := by omega
          obtain rfl : x.nm = u' := Option.some.inj (HNJ.out.symm.trans hu')
          exact HE.out⟩
  · exfalso
    obtain ⟨i, hi⟩ := List.getElem?_of_mem HH.out
    have hl := (List.getElem?_eq_some_iff.1 hi).1
    have hl2 : (Sf.names l).length = n := by unfold Sf.names; rw [List.length_map]; exact HN.out.symm
    exact HNO.out i nm (by omega) hi rfl
set_option maxRecDepth 20000 in
set_option maxHeartbeats 600000 in
theorem rPut_full {w : World} {Z : Nat → Prop} {y m : Nat} {l : List Adv} {s : Bool} (q : RQue w Z y m l s) (nm : List UInt8) (ty : Int) (FA9 : Option Addr) (fn fc : Nat) (hh : nm ∉ Sf.names l ∧ l.length = m) : Calls Try.prog 13 #[.pointer (some ⟨y, 0, none⟩), strV nm, msgV ty FA9 fn fc] w fun e w' => e = .returned (.int .i64 3) ∧ Turn nowhere w w' := by
  obtain ⟨⟨A, c, xs, hb, hr, hx, hz⟩, hlen, hmax, hway⟩ := q
  obtain ⟨n, hn⟩ : ∃ n, n = l.length := ⟨_, rfl⟩
  rw [← hn] at hb hr hlen
  have hxl : xs.length = n := by rw [hn, ← hx, List.length_map]
  have hrw := hr.rws (by rw [List.length_map]; omega) (by decide)
  have HB := Lib.hid hb
  have HRW := Lib.hid hrw
  have HX := Lib.hid hx
  have HXL := Lib.hid hxl
  have HN := Lib.hid hn
  have HH := Lib.hid hh
  have yn : n ≤ 16 := by omega
  have ym : m ≤ 16 := hmax.2
  clear hb hr hx hz hlen hmax hway hn hrw hxl hh
  unfold msgV
  go_enter Try.func13, Try.ntmps13
  go_upto_region 0 with fail
  refine wp_region_lit ?_
  refine wpList_run (v := .pointer (some ⟨(w).heap.size, 0, none⟩)) (w' := (w).alloc (.cells #[.int .i64 ty, .slice FA9 fn fc] 35)) (wanted_none rfl) (gx_box rfl rfl (box_msg ty FA9 fn fc _)) ?_
  simp only [Act.put, List.setIfInBounds_toArray, List.set_cons_zero, List.set_cons_succ]
  refine wpList_run (v := .int .i64 0) (wanted_none rfl) (gx_assign rfl rfl) ?_
  simp only [Act.put, List.setIfInBounds_toArray, List.set_cons_zero, List.set_cons_succ]
  have hb_mb := Blk.new (w) 35 #[.int .i64 ty, .slice FA9 fn fc]
  have ht_ := (Turn.refl nowhere (w)).alloc (.cells #[.int .i64 ty, .slice FA9 fn fc] 35)
  obtain ⟨n0_, hn0_⟩ : ∃ n, n = (w).heap.size := ⟨_, rfl⟩
  have hz_mb : (w).heap.size = n0_ + 0 := by rw [hn0_]; simp
  obtain ⟨mb, hg_⟩ : ∃ g, g = (w).heap.size := ⟨_, rfl⟩
  rw [← hg_] at hb_mb hz_mb ⊢
  clear hg_
  generalize (w).alloc (.cells #[.int .i64 ty, .slice FA9 fn fc] 35) = w1 at *
  have HT1 := Lib.hid ht_
  clear ht_
  have HBmb := Lib.hid hb_mb
  have HLmb := Lib.hid (show (w).heap.size ≤ mb from by omega)
  clear hb_mb
  clear hn0_ hz_mb
  clear n0_
  have HB1 := Lib.hid (HB.out.turn HT1.out fun e => e)
  go_upto_region 1 with fail
  refine wp_region_lit ?_
  refine wpList_run (v := .int .i64 0) (wanted_none rfl) (gx_assign rfl rfl) ?_
  simp only [Act.put, List.setIfInBounds_toArray, List.set_cons_zero, List.set_cons_succ]
  go_wp2_with fail
  go_loopg [7] n (fun gk iv wr => ∃ j : Nat, iv = .int .i64 (j : Int) ∧ j + gk = n ∧ wr = w1 ∧ ∀ i u, i < j → (Sf.names l)[i]? = some u → u ≠ nm)
  case atStart => exact ⟨0, rfl, by omega, rfl, fun i u hi => by omega⟩
  obtain ⟨j, rfl, hjl, rfl, hno⟩ := hrel
  have HJL := Lib.hid hjl
  have HNO := Lib.hid hno
  clear hjl hno
  by_cases hlt : j < n
  · have HLT := Lib.hid hlt
    have y1 : (j : Int) < (n : Int) := by omega
    obtain ⟨x, hx⟩ : ∃ x, xs[j]? = some x := ⟨xs[j]'(by rw [HXL.out]; omega), List.getElem?_eq_getElem (by rw [HXL.out]; omega)⟩
    obtain ⟨b, off, rfl, hat⟩ := ad_at (HRW.out.still HT1.out) hx
    have HAT := Lib.hid (hat 0 _ rfl)
    have HNJ := Lib.hid (show (Sf.names l)[j]? = some x.nm from by unfold Sf.names; rw [← HX.out, List.getElem?_map, List.getElem?_map, hx]; rfl)
    clear hat hx hlt
    go_upto_region 2 with fail
    refine wp_region_lit ?_
    refine wpList_run (v := .int .i64 (j : Int)) (wanted_none rfl) (exec_move rfl rfl) ?_
    simp only [Act.put, List.setIfInBounds_toArray, List.set_cons_zero, List.set_cons_succ]
    refine wpList_run (v := .pointer (some ⟨y, 0, none⟩)) (wanted_none rfl) (exec_move rfl rfl) ?_
    simp only [Act.put, List.setIfInBounds_toArray, List.set_cons_zero, List.set_cons_succ]
    refine wpList_run (v := .pointer (some ⟨y, 0, none⟩)) (wanted_none rfl) (exec_nil rfl rfl) ?_
    simp only [Act.put, List.setIfInBounds_toArray, List.set_cons_zero, List.set_cons_succ]
    refine wpList_run (v := .pointer (some ⟨y, 1, none⟩)) (wanted_none rfl) (exec_field (off := 0) (d := 1) rfl rfl (by kernel_rfl)) ?_
    simp only [Act.put, List.setIfInBounds_toArray, List.set_cons_zero, List.set_cons_succ]
    refine wpList_run (v := .slice (some ⟨b, off, none⟩) n c) (wanted_none rfl) (exec_load1 rfl rfl (by kernel_rfl) (HB1.out.cell 1)) ?_
    simp only [Act.put, List.setIfInBounds_toArray, List.set_cons_zero, List.set_cons_succ]
    refine wpList_run (v := .int .i64 (n : Int)) (wanted_none rfl) (gx_len rfl rfl Try.underlying57) ?_
    simp only [Act.put, List.setIfInBounds_toArray, List.set_cons_zero, List.set_cons_succ]
    refine wpList_run (v := .bool true) (wanted_none rfl) (ix_lss rfl rfl rfl (decide_eq_true y1)) ?_
    simp only [Act.put, List.setIfInBounds_toArray, List.set_cons_zero, List.set_cons_succ]
    go_upto_region 4 with fail
    refine wp_region_lit ?_
    refine wpList_run (v := .pointer (some ⟨y, 0, none⟩)) (wanted_none rfl) (exec_move rfl rfl) ?_
    simp only [Act.put, List.setIfInBounds_toArray, List.set_cons_zero, List.set_cons_succ]
    refine wpList_run (v := .pointer (some ⟨y, 0, none⟩)) (wanted_none rfl) (exec_nil rfl rfl) ?_
    simp only [Act.put, List.setIfInBounds_toArray, List.set_cons_zero, List.set_cons_succ]
    refine wpList_run (v := .pointer (some ⟨y, 1, none⟩)) (wanted_none rfl) (exec_field (off := 0) (d := 1) rfl rfl (by kernel_rfl)) ?_
    simp only [Act.put, List.setIfInBounds_toArray, List.set_cons_zero, List.set_cons_succ]
    refine wpList_run (v := .slice (some ⟨b, off, none⟩) n c) (wanted_none rfl) (exec_load1 rfl rfl (by kernel_rfl) (HB1.out.cell 1)) ?_
    simp only [Act.put, List.setIfInBounds_toArray, List.set_cons_zero, List.set_cons_succ]
    refine wpList_run (v := .int .i64 (j : Int)) (wanted_none rfl) (exec_move rfl rfl) ?_
    simp only [Act.put, List.setIfInBounds_toArray, List.set_cons_zero, List.set_cons_succ]
    refine wpList_run (v := .pointer (some ⟨b, off + j * 3, none⟩)) (wanted_none rfl) (gx_iaddr (i := j) (sz := 3) rfl rfl rfl Try.underlying57 size_ra HLT.out (by omega)) ?_
    simp only [Act.put, List.setIfInBounds_toArray, List.set_cons_zero, List.set_cons_succ]
    refine wpList_run (v := .pointer (some ⟨b, off + j * 3, none⟩)) (wanted_none rfl) (exec_field (off := off + j * 3) (d := 0) rfl rfl (by kernel_rfl)) ?_
    simp only [Act.put, List.setIfInBounds_toArray, List.set_cons_zero, List.set_cons_succ]
    refine wpList_run (v := strV x.nm) (wanted_none rfl) (exec_load1 rfl rfl (by kernel_rfl) HAT.out) ?_
    simp only [Act.put, List.setIfInBounds_toArray, List.set_cons_zero, List.set_cons_succ]
    refine wpList_run (v := strV nm) (wanted_none rfl) (exec_move rfl rfl) ?_
    simp only [Act.put, List.setIfInBounds_toArray, List.set_cons_zero, List.set_cons_succ]
    refine wpList_run (v := .bool (x.nm == nm)) (wanted_none rfl) (exec_seql rfl rfl rfl) ?_
    simp only [Act.put, List.setIfInBounds_toArray, List.set_cons_zero, List.set_cons_succ]
    by_cases he : x.nm = nm
    · exact absurd (he ▸ List.mem_of_getElem? HNJ.out) HH.out.1
    · have HE := Lib.hid he
      rw [beq_eq_false_iff_ne.2 he]
      clear he
      go_upto_region 3 with fail
      refine wp_region_lit ?_
      refine wpList_run (v := .int .i64 (j : Int)) (wanted_none rfl) (exec_move rfl rfl) ?_
      simp only [Act.put, List.setIfInBounds_toArray, List.set_cons_zero, List.set_cons_succ]
      refine wpList_run (v := .int .i64 ((j + 1 : Nat) : Int)) (wanted_none rfl) (ix_add rfl rfl rfl (by omega) (by omega)) ?_
      simp only [Act.put, List.setIfInBounds_toArray, List.set_cons_zero, List.set_cons_succ]
      refine wpList_run (v := .int .i64 ((j + 1 : Nat) : Int)) (wanted_none rfl) (gx_assign rfl rfl) ?_
      simp only [Act.put, List.setIfInBounds_toArray, List.set_cons_zero, List.set_cons_succ]
      go_wp2_with fail
      go_roundg (gk - 1)
      case measure => have := HJL.out; have := HLT.out; omega
      case rel => exact ⟨j + 1, rfl, by have := HJL.out; have := HLT.out; omega, rfl, fun i u' hi hu' => by
        by_cases hij : i < j
        · exact HNO.out i u' hij hu'
        · obtain rfl : i = j := by omega
          obtain rfl : x.nm = u' := Option.some.inj (HNJ.out.symm.trans hu')
          exact HE.out⟩
  · have y1 : ¬ (j : Int) < (n : Int) := by omega
    obtain rfl : j = n := by have := HJL.out; omega
    clear hlt
    go_upto_region 2 with fail
    refine wp_region_lit ?_
    refine wpList_run (v := .int .i64 (j : Int)) (wanted_none rfl) (exec_move rfl rfl) ?_
    simp only [Act.put, List.setIfInBounds_toArray, List.set_cons_zero, List.set_cons_succ]
    refine wpList_run (v := .pointer (some ⟨y, 0, none⟩)) (wanted_none rfl) (exec_move rfl rfl) ?_
    simp only [Act.put, List.setIfInBounds_toArray, List.set_cons_zero, List.set_cons_succ]
    refine wpList_run (v := .pointer (some ⟨y, 0, none⟩)) (wanted_none rfl) (exec_nil rfl rfl) ?_
    simp only [Act.put, List.setIfInBounds_toArray, List.set_cons_zero, List.set_cons_succ]
    refine wpList_run (v := .pointer (some ⟨y, 1, none⟩)) (wanted_none rfl) (exec_field (off := 0) (d := 1) rfl rfl (by kernel_rfl)) ?_
    simp only [Act.put, List.setIfInBounds_toArray, List.set_cons_zero, List.set_cons_succ]
    refine wpList_run (v := .slice A j c) (wanted_none rfl) (exec_load1 rfl rfl (by kernel_rfl) (HB1.out.cell 1)) ?_
    simp only [Act.put, List.setIfInBounds_toArray, List.set_cons_zero, List.set_cons_succ]
    refine wpList_run (v := .int .i64 (j : Int)) (wanted_none rfl) (gx_len rfl rfl Try.underlying57) ?_
    simp only [Act.put, List.setIfInBounds_toArray, List.set_cons_zero, List.set_cons_succ]
    refine wpList_run (v := .bool false) (wanted_none rfl) (ix_lss rfl rfl rfl (decide_eq_false (by omega))) ?_
    simp only [Act.put, List.setIfInBounds_toArray, List.set_cons_zero, List.set_cons_succ]
    have HFUL := Lib.hid (show (((j : Nat) : Int) = (m : Int))  from by have := HN.out; have := HH.out.2; omega)
    go_upto_region 6 with fail
    refine wp_region_alw (fun W => Blk W y 59 #[.int .i64 (m : Int), .slice A j c, .bool s]) (by kernel_rfl) ?_
    have hS0 : (fun W => Blk W y 59 #[.int .i64 (m : Int), .slice A j c, .bool s]) wr.drew := HB1.out
    have HD6 := Lib.hid ((Turn.refl nowhere wr).drew)
    generalize wr.drew = wd at *
    refine alw_take (i := 0) (v := .pointer (some ⟨y, 0, none⟩)) rfl (by kernel_rfl) (by kernel_rfl) (fun _ _ _ h => h) (.inl ⟨by rfl, fun W hW => exec_move rfl rfl⟩) hS0 ?_
    simp only [Act.put, List.setIfInBounds_toArray, List.set_cons_zero, List.set_cons_succ]
    refine alw_take (i := 1) (v := .pointer (some ⟨y, 0, none⟩)) rfl (by kernel_rfl) (by kernel_rfl) (fun _ _ _ h => h) (.inl ⟨by rfl, fun W hW => exec_nil rfl rfl⟩) hS0 ?_
    simp only [Act.put, List.setIfInBounds_toArray, List.set_cons_zero, List.set_cons_succ]
    refine alw_take (i := 2) (v := .pointer (some ⟨y, 1, none⟩)) rfl (by kernel_rfl) (by kernel_rfl) (fun _ _ _ h => h) (.inl ⟨by rfl, fun W hW => exec_field (off := 0) (d := 1) rfl rfl (by kernel_rfl)⟩) hS0 ?_
    simp only [Act.put, List.setIfInBounds_toArray, List.set_cons_zero, List.set_cons_succ]
    refine alw_take (i := 3) (v := .slice A j c) rfl (by kernel_rfl) (by kernel_rfl) (fun _ _ _ h => h) (.inl ⟨by rfl, fun W hW => exec_load1 rfl rfl (by kernel_rfl) (hW.cell 1)⟩) hS0 ?_
    simp only [Act.put, List.setIfInBounds_toArray, List.set_cons_zero, List.set_cons_succ]
    refine alw_take (i := 4) (v := .int .i64 (j : Int)) rfl (by kernel_rfl) (by kernel_rfl) (fun _ _ _ h => h) (.inl ⟨by rfl, fun W hW => gx_len rfl rfl Try.underlying57⟩) hS0 ?_
    simp only [Act.put, List.setIfInBounds_toArray, List.set_cons_zero, List.set_cons_succ]
    refine alw_take (i := 5) (v := .pointer (some ⟨y, 0, none⟩)) rfl (by kernel_rfl) (by kernel_rfl) (fun _ _ _ h => h) (.inl ⟨by rfl, fun W hW => exec_move rfl rfl⟩) hS0 ?_
    simp only [Act.put, List.setIfInBounds_toArray, List.set_cons_zero, List.set_cons_succ]
    refine alw_take (i := 6) (v := .pointer (some ⟨y, 0, none⟩)) rfl (by kernel_rfl) (by kernel_rfl) (fun _ _ _ h => h) (.inl ⟨by rfl, fun W hW => exec_nil rfl rfl⟩) hS0 ?_
    simp only [Act.put, List.setIfInBounds_toArray, List.set_cons_zero, List.set_cons_succ]
    refine alw_take (i := 7) (v := .pointer (some ⟨y, 0, none⟩)) rfl (by kernel_rfl) (by kernel_rfl) (fun _ _ _ h => h) (.inl ⟨by rfl, fun W hW => exec_field (off := 0) (d := 0) rfl rfl (by kernel_rfl)⟩) hS0 ?_
    simp only [Act.put, List.setIfInBounds_toArray, List.set_cons_zero, List.set_cons_succ]
    refine alw_take (i := 8) (v := .int .i64 (m : Int)) rfl (by kernel_rfl) (by kernel_rfl) (fun _ _ _ h => h) (.inl ⟨by rfl, fun W hW => exec_load1 rfl rfl (by kernel_rfl) (hW.cell 0)⟩) hS0 ?_
    simp only [Act.put, List.setIfInBounds_toArray, List.set_cons_zero, List.set_cons_succ]
    refine alw_take (i := 9) (v := .bool true) rfl (by kernel_rfl) (by kernel_rfl) (fun _ _ _ h => h) (.inl ⟨by rfl, fun W hW => ix_eql rfl rfl rfl (decide_eq_true HFUL.out)⟩) hS0 ?_
    simp only [Act.put, List.setIfInBounds_toArray, List.set_cons_zero, List.set_cons_succ]
    refine alw_done rfl ?_
    refine NoPanic.normal ?_
    clear hS0
    try simp only [Act.put, List.setIfInBounds_toArray, List.set_cons_zero, List.set_cons_succ]
    go_upto_region 7 with fail
    refine wp_region_lit ?_
    refine wpList_run (v := .int .i64 3) (wanted_none rfl) (gx_assign rfl rfl) ?_
    simp only [Act.put, List.setIfInBounds_toArray, List.set_cons_zero, List.set_cons_succ]
    go_wp2_with fail
    go_ret
    exact ⟨rfl, HT1.out.trans HD6.out fun _ _ e => e⟩
set_option maxRecDepth 20000 in
set_option maxHeartbeats 600000 in
theorem rPut_ok {w : World} {Z : Nat → Prop} {y m : Nat} {l : List Adv} {s : Bool} (q : RQue w Z y m l s) (nm : List UInt8) (ty : Int) (FA9 : Option Addr) (fn fc : Nat) {fs : List Fld} (hf : Fq w FA9 fn fs) (hnil : FA9 = none → fc = 0) (hh : nm ∉ Sf.names l ∧ l.length ≠ m) : Calls Try.prog 13 #[.pointer (some ⟨y, 0, none⟩), strV nm, msgV ty FA9 fn fc] w fun e w' => e = .returned (.int .i64 0) ∧ RQue w' (fun k => Z k ∨ w.heap.size ≤ k) y m (l ++ [(nm, ty, fs)]) s ∧ Turn (only y) w w' := by
  have HF := Lib.hid hf
  have HNIL := Lib.hid hnil
  have HFL := Lib.hid hf.len
  have yf : fn * 24 ≤ 140737488355328 := hf.2
  have HQ := Lib.hid q
  clear hf hnil
  obtain ⟨⟨A, c, xs, hb, hr, hx, hz⟩, hlen, hmax, hway⟩ := q
  obtain ⟨n, hn⟩ : ∃ n, n = l.length := ⟨_, rfl⟩
  rw [← hn] at hb hr hlen
  have hxl : xs.length = n := by rw [hn, ← hx, List.length_map]
  have hrw := hr.rws (by rw [List.length_map]; omega) (by decide)
  have HB := Lib.hid hb
  have HRW := Lib.hid hrw
  have HX := Lib.hid hx
  have HXL := Lib.hid hxl
  have HN := Lib.hid hn
  have HH := Lib.hid hh
  have yn : n ≤ 16 := by omega
  have ym : m ≤ 16 := hmax.2
  clear hb hr hx hz hlen hmax hway hn hrw hxl hh
  unfold msgV
  go_enter Try.func13, Try.ntmps13
  go_upto_region 0 with fail
  refine wp_region_lit ?_
  refine wpList_run (v := .pointer (some ⟨(w).heap.size, 0, none⟩)) (w' := (w).alloc (.cells #[.int .i64 ty, .slice FA9 fn fc] 35)) (wanted_none rfl) (gx_box rfl rfl (box_msg ty FA9 fn fc _)) ?_
  simp only [Act.put, List.setIfInBounds_toArray, List.set_cons_zero, List.set_cons_succ]
  refine wpList_run (v := .int .i64 0) (wanted_none rfl) (gx_assign rfl rfl) ?_
  simp only [Act.put, List.setIfInBounds_toArray, List.set_cons_zero, List.set_cons_succ]
  have hb_mb := Blk.new (w) 35 #[.int .i64 ty, .slice FA9 fn fc]
  have ht_ := (Turn.refl nowhere (w)).alloc (.cells #[.int .i64 ty, .slice FA9 fn fc] 35)
  obtain ⟨n0_, hn0_⟩ : ∃ n, n = (w).heap.size := ⟨_, rfl⟩
  have hz_mb : (w).heap.size = n0_ + 0 := by rw [hn0_]; simp
  obtain ⟨mb, hg_⟩ : ∃ g, g = (w).heap.size := ⟨_, rfl⟩
  rw [← hg_] at hb_mb hz_mb ⊢
  clear hg_
  generalize (w).alloc (.cells #[.int .i64 ty, .slice FA9 fn fc] 35) = w1 at *
  have HT1 := Lib.hid ht_
  clear ht_
  have HBmb := Lib.hid hb_mb
  have HLmb := Lib.hid (show (w).heap.size ≤ mb from by omega)
  clear hb_mb
  clear hn0_ hz_mb
  clear n0_
  have HB1 := Lib.hid (HB.out.turn HT1.out fun e => e)
  go_upto_region 1 with fail
  refine wp_region_lit ?_
  refine wpList_run (v := .int .i64 0) (wanted_none rfl) (gx_assign rfl rfl) ?_
  simp only [Act.put, List.setIfInBounds_toArray, List.set_cons_zero, List.set_cons_succ]
  go_wp2_with fail
  go_loopg [7] n (fun gk iv wr => ∃ j : Nat, iv = .int .i64 (j : Int) ∧ j + gk = n ∧ wr = w1 ∧ ∀ i u, i < j → (Sf.names l)[i]? = some u → u ≠ nm)
  case atStart => exact ⟨0, rfl, by omega, rfl, fun i u hi => by omega⟩
  obtain ⟨j, rfl, hjl, rfl, hno⟩ := hrel
  have HJL := Lib.hid hjl
  have HNO := Lib.hid hno
  clear hjl hno
  by_cases hlt : j < n
  · have HLT := Lib.hid hlt
    have y1 : (j : Int) < (n : Int) := by omega
    obtain ⟨x, hx⟩ : ∃ x, xs[j]? = some x := ⟨xs[j]'(by rw [HXL.out]; omega), List.getElem?_eq_getElem (by rw [HXL.out]; omega)⟩
    obtain ⟨b, off, rfl, hat⟩ := ad_at (HRW.out.still HT1.out) hx
    have HAT := Lib.hid (hat 0 _ rfl)
    have HNJ := Lib.hid (show (Sf.names l)[j]? = some x.nm from by unfold Sf.names; rw [← HX.out, List.getElem?_map, List.getElem?_map, hx]; rfl)
    clear hat hx hlt
    go_upto_region 2 with fail
    refine wp_region_lit ?_
    refine wpList_run (v := .int .i64 (j : Int)) (wanted_none rfl) (exec_move rfl rfl) ?_
    simp only [Act.put, List.setIfInBounds_toArray, List.set_cons_zero, List.set_cons_succ]
    refine wpList_run (v := .pointer (some ⟨y, 0, none⟩)) (wanted_none rfl) (exec_move rfl rfl) ?_
    simp only [Act.put, List.setIfInBounds_toArray, List.set_cons_zero, List.set_cons_succ]
    refine wpList_run (v := .pointer (some ⟨y, 0, none⟩)) (wanted_none rfl) (exec_nil rfl rfl) ?_
    simp only [Act.put, List.setIfInBounds_toArray, List.set_cons_zero, List.set_cons_succ]
    refine wpList_run (v := .pointer (some ⟨y, 1, none⟩)) (wanted_none rfl) (exec_field (off := 0) (d := 1) rfl rfl (by kernel_rfl)) ?_
    simp only [Act.put, List.setIfInBounds_toArray, List.set_cons_zero, List.set_cons_succ]
    refine wpList_run (v := .slice (some ⟨b, off, none⟩) n c) (wanted_none rfl) (exec_load1 rfl rfl (by kernel_rfl) (HB1.out.cell 1)) ?_
    simp only [Act.put, List.setIfInBounds_toArray, List.set_cons_zero, List.set_cons_succ]
    refine wpList_run (v := .int .i64 (n : Int)) (wanted_none rfl) (gx_len rfl rfl Try.underlying57) ?_
    simp only [Act.put, List.setIfInBounds_toArray, List.set_cons_zero, List.set_cons_succ]
    refine wpList_run (v := .bool true) (wanted_none rfl) (ix_lss rfl rfl rfl (decide_eq_true y1)) ?_
    simp only [Act.put, List.setIfInBounds_toArray, List.set_cons_zero, List.set_cons_succ]
    go_upto_region 4 with fail
    refine wp_region_lit ?_
    refine wpList_run (v := .pointer (some ⟨y, 0, none⟩)) (wanted_none rfl) (exec_move rfl rfl) ?_
    simp only [Act.put, List.setIfInBounds_toArray, List.set_cons_zero, List.set_cons_succ]
    refine wpList_run (v := .pointer (some ⟨y, 0, none⟩)) (wanted_none rfl) (exec_nil rfl rfl) ?_
    simp only [Act.put, List.setIfInBounds_toArray, List.set_cons_zero, List.set_cons_succ]
    refine wpList_run (v := .pointer (some ⟨y, 1, none⟩)) (wanted_none rfl) (exec_field (off := 0) (d := 1) rfl rfl (by kernel_rfl)) ?_
    simp only [Act.put, List.setIfInBounds_toArray, List.set_cons_zero, List.set_cons_succ]
    refine wpList_run (v := .slice (some ⟨b, off, none⟩) n c) (wanted_none rfl) (exec_load1 rfl rfl (by kernel_rfl) (HB1.out.cell 1)) ?_
    simp only [Act.put, List.setIfInBounds_toArray, List.set_cons_zero, List.set_cons_succ]
    refine wpList_run (v := .int .i64 (j : Int)) (wanted_none rfl) (exec_move rfl rfl) ?_
    simp only [Act.put, List.setIfInBounds_toArray, List.set_cons_zero, List.set_cons_succ]
    refine wpList_run (v := .pointer (some ⟨b, off + j * 3, none⟩)) (wanted_none rfl) (gx_iaddr (i := j) (sz := 3) rfl rfl rfl Try.underlying57 size_ra HLT.out (by omega)) ?_
    simp only [Act.put, List.setIfInBounds_toArray, List.set_cons_zero, List.set_cons_succ]
    refine wpList_run (v := .pointer (some ⟨b, off + j * 3, none⟩)) (wanted_none rfl) (exec_field (off := off + j * 3) (d := 0) rfl rfl (by kernel_rfl)) ?_
    simp only [Act.put, List.setIfInBounds_toArray, List.set_cons_zero, List.set_cons_succ]
    refine wpList_run (v := strV x.nm) (wanted_none rfl) (exec_load1 rfl rfl (by kernel_rfl) HAT.out) ?_
    simp only [Act.put, List.setIfInBounds_toArray, List.set_cons_zero, List.set_cons_succ]
    refine wpList_run (v := strV nm) (wanted_none rfl) (exec_move rfl rfl) ?_
    simp only [Act.put, List.setIfInBounds_toArray, List.set_cons_zero, List.set_cons_succ]
    refine wpList_run (v := .bool (x.nm == nm)) (wanted_none rfl) (exec_seql rfl rfl rfl) ?_
    simp only [Act.put, List.setIfInBounds_toArray, List.set_cons_zero, List.set_cons_succ]
    by_cases he : x.nm = nm
    · exact absurd (he ▸ List.mem_of_getElem? HNJ.out) HH.out.1
    · have HE := Lib.hid he
      rw [beq_eq_false_iff_ne.2 he]
      clear he
      go_upto_region 3 with fail
      refine wp_region_lit ?_
      refine wpList_run (v := .int .i64 (j : Int)) (wanted_none rfl) (exec_move rfl rfl) ?_
      simp only [Act.put, List.setIfInBounds_toArray, List.set_cons_zero, List.set_cons_succ]
      refine wpList_run (v := .int .i64 ((j + 1 : Nat) : Int)) (wanted_none rfl) (ix_add rfl rfl rfl (by omega) (by omega)) ?_
      simp only [Act.put, List.setIfInBounds_toArray, List.set_cons_zero, List.set_cons_succ]
      refine wpList_run (v := .int .i64 ((j + 1 : Nat) : Int)) (wanted_none rfl) (gx_assign rfl rfl) ?_
      simp only [Act.put, List.setIfInBounds_toArray, List.set_cons_zero, List.set_cons_succ]
      go_wp2_with fail
      go_roundg (gk - 1)
      case measure => have := HJL.out; have := HLT.out; omega
      case rel => exact ⟨j + 1, rfl, by have := HJL.out; have := HLT.out; omega, rfl, fun i u' hi hu' => by
        by_cases hij : i < j
        · exact HNO.out i u' hij hu'
        · obtain rfl : i = j := by omega
          obtain rfl : x.nm = u' := Option.some.inj (HNJ.out.symm.trans hu')
          exact HE.out⟩
  · have y1 : ¬ (j : Int) < (n : Int) := by omega
    obtain rfl : j = n := by have := HJL.out; omega
    clear hlt
    go_upto_region 2 with fail
    refine wp_region_lit ?_
    refine wpList_run (v := .int .i64 (j : Int)) (wanted_none rfl) (exec_move rfl rfl) ?_
    simp only [Act.put, List.setIfInBounds_toArray, List.set_cons_zero, List.set_cons_succ]
    refine wpList_run (v := .pointer (some ⟨y, 0, none⟩)) (wanted_none rfl) (exec_move rfl rfl) ?_
    simp only [Act.put, List.setIfInBounds_toArray, List.set_cons_zero, List.set_cons_succ]
    refine wpList_run (v := .pointer (some ⟨y, 0, none⟩)) (wanted_none rfl) (exec_nil rfl rfl) ?_
    simp only [Act.put, List.setIfInBounds_toArray, List.set_cons_zero, List.set_cons_succ]
    refine wpList_run (v := .pointer (some ⟨y, 1, none⟩)) (wanted_none rfl) (exec_field (off := 0) (d := 1) rfl rfl (by kernel_rfl)) ?_
    simp only [Act.put, List.setIfInBounds_toArray, List.set_cons_zero, List.set_cons_succ]
    refine wpList_run (v := .slice A j c) (wanted_none rfl) (exec_load1 rfl rfl (by kernel_rfl) (HB1.out.cell 1)) ?_
    simp only [Act.put, List.setIfInBounds_toArray, List.set_cons_zero, List.set_cons_succ]
    refine wpList_run (v := .int .i64 (j : Int)) (wanted_none rfl) (gx_len rfl rfl Try.underlying57) ?_
    simp only [Act.put, List.setIfInBounds_toArray, List.set_cons_zero, List.set_cons_succ]
    refine wpList_run (v := .bool false) (wanted_none rfl) (ix_lss rfl rfl rfl (decide_eq_false (by omega))) ?_
    simp only [Act.put, List.setIfInBounds_toArray, List.set_cons_zero, List.set_cons_succ]
    have HFUL := Lib.hid (show (((j : Nat) : Int) = (m : Int)) → False from by have := HN.out; have := HH.out.2; omega)
    go_upto_region 6 with fail
    refine wp_region_alw (fun W => Blk W y 59 #[.int .i64 (m : Int), .slice A j c, .bool s]) (by kernel_rfl) ?_
    have hS0 : (fun W => Blk W y 59 #[.int .i64 (m : Int), .slice A j c, .bool s]) wr.drew := HB1.out
    have HD6 := Lib.hid ((Turn.refl nowhere wr).drew)
    generalize wr.drew = wd at *
    refine alw_take (i := 0) (v := .pointer (some ⟨y, 0, none⟩)) rfl (by kernel_rfl) (by kernel_rfl) (fun _ _ _ h => h) (.inl ⟨by rfl, fun W hW => exec_move rfl rfl⟩) hS0 ?_
    simp only [Act.put, List.setIfInBounds_toArray, List.set_cons_zero, List.set_cons_succ]
    refine alw_take (i := 1) (v := .pointer (some ⟨y, 0, none⟩)) rfl (by kernel_rfl) (by kernel_rfl) (fun _ _ _ h => h) (.inl ⟨by rfl, fun W hW => exec_nil rfl rfl⟩) hS0 ?_
    simp only [Act.put, List.setIfInBounds_toArray, List.set_cons_zero, List.set_cons_succ]
    refine alw_take (i := 2) (v := .pointer (some ⟨y, 1, none⟩)) rfl (by kernel_rfl) (by kernel_rfl) (fun _ _ _ h => h) (.inl ⟨by rfl, fun W hW => exec_field (off := 0) (d := 1) rfl rfl (by kernel_rfl)⟩) hS0 ?_
    simp only [Act.put, List.setIfInBounds_toArray, List.set_cons_zero, List.set_cons_succ]
    refine alw_take (i := 3) (v := .slice A j c) rfl (by kernel_rfl) (by kernel_rfl) (fun _ _ _ h => h) (.inl ⟨by rfl, fun W hW => exec_load1 rfl rfl (by kernel_rfl) (hW.cell 1)⟩) hS0 ?_
    simp only [Act.put, List.setIfInBounds_toArray, List.set_cons_zero, List.set_cons_succ]
    refine alw_take (i := 4) (v := .int .i64 (j : Int)) rfl (by kernel_rfl) (by kernel_rfl) (fun _ _ _ h => h) (.inl ⟨by rfl, fun W hW => gx_len rfl rfl Try.underlying57⟩) hS0 ?_
    simp only [Act.put, List.setIfInBounds_toArray, List.set_cons_zero, List.set_cons_succ]
    refine alw_take (i := 5) (v := .pointer (some ⟨y, 0, none⟩)) rfl (by kernel_rfl) (by kernel_rfl) (fun _ _ _ h => h) (.inl ⟨by rfl, fun W hW => exec_move rfl rfl⟩) hS0 ?_
    simp only [Act.put, List.setIfInBounds_toArray, List.set_cons_zero, List.set_cons_succ]
    refine alw_take (i := 6) (v := .pointer (some ⟨y, 0, none⟩)) rfl (by kernel_rfl) (by kernel_rfl) (fun _ _ _ h => h) (.inl ⟨by rfl, fun W hW => exec_nil rfl rfl⟩) hS0 ?_
    simp only [Act.put, List.setIfInBounds_toArray, List.set_cons_zero, List.set_cons_succ]
    refine alw_take (i := 7) (v := .pointer (some ⟨y, 0, none⟩)) rfl (by kernel_rfl) (by kernel_rfl) (fun _ _ _ h => h) (.inl ⟨by rfl, fun W hW => exec_field (off := 0) (d := 0) rfl rfl (by kernel_rfl)⟩) hS0 ?_
    simp only [Act.put, List.setIfInBounds_toArray, List.set_cons_zero, List.set_cons_succ]
    refine alw_take (i := 8) (v := .int .i64 (m : Int)) rfl (by kernel_rfl) (by kernel_rfl) (fun _ _ _ h => h) (.inl ⟨by rfl, fun W hW => exec_load1 rfl rfl (by kernel_rfl) (hW.cell 0)⟩) hS0 ?_
    simp only [Act.put, List.setIfInBounds_toArray, List.set_cons_zero, List.set_cons_succ]
    refine alw_take (i := 9) (v := .bool false) rfl (by kernel_rfl) (by kernel_rfl) (fun _ _ _ h => h) (.inl ⟨by rfl, fun W hW => ix_eql rfl rfl rfl (decide_eq_false HFUL.out)⟩) hS0 ?_
    simp only [Act.put, List.setIfInBounds_toArray, List.set_cons_zero, List.set_cons_succ]
    refine alw_done rfl ?_
    refine NoPanic.normal ?_
    clear hS0
    try simp only [Act.put, List.setIfInBounds_toArray, List.set_cons_zero, List.set_cons_succ]
    have HTD := Lib.hid (HT1.out.trans HD6.out fun _ _ e => e)
    have HMBd := Lib.hid (HBmb.out.turn HD6.out fun e => e)
    have HFd0 := Lib.hid (HF.out.still HTD.out)
    clear HT1 HBmb HB1 HB HRW
    go_upto_region 8 with fail
    go_cut [8] from 38 to 44 (fun ov wx => ∃ (go : Nat) (A7 : Option Addr) (c7 : Nat), ov = .pointer (some ⟨go, 0, none⟩) ∧ Blk wx go 35 #[.int .i64 ty, .slice A7 fn c7] ∧ Fr wx wd.heap.size (.slice A7 fn c7) fs ∧ Turn nowhere wd wx ∧ wd.heap.size ≤ go)
    case first =>
      have HD := Lib.hid ((Turn.refl nowhere wd).drew)
      refine wp_region_alw (fun W => Blk W mb 35 #[.int .i64 ty, .slice FA9 fn fc]) (by kernel_rfl) ?_
      have hS0 : (fun W => Blk W mb 35 #[.int .i64 ty, .slice FA9 fn fc]) wd.drew := HMBd.out.drew
      have HFd := Lib.hid (HFd0.out.still HD.out)
      have HSd := Lib.hid hS0
      have HSZ := Lib.hid (show wd.drew.heap.size = wd.heap.size from rfl)
      have HST := Lib.hid (show ∀ w', Turn nowhere wd.drew w' → (fun W => Blk W mb 35 #[.int .i64 ty, .slice FA9 fn fc]) w' from fun w' ht => hS0.turn ht fun e => e)
      generalize wd.drew = wd at *
      refine alw_take (i := 0) (v := .pointer (some ⟨mb, 0, none⟩)) rfl (by kernel_rfl) (by kernel_rfl) (fun _ _ _ h => h) (.inl ⟨by rfl, fun W hW => exec_field (off := 0) (d := 0) rfl rfl (by kernel_rfl)⟩) hS0 ?_
      simp only [Act.put, List.setIfInBounds_toArray, List.set_cons_zero, List.set_cons_succ]
      refine alw_take (i := 1) (v := .int .i64 ty) rfl (by kernel_rfl) (by kernel_rfl) (fun _ _ _ h => h) (.inl ⟨by rfl, fun W hW => exec_load1 rfl rfl (by kernel_rfl) (hW.cell 0)⟩) hS0 ?_
      simp only [Act.put, List.setIfInBounds_toArray, List.set_cons_zero, List.set_cons_succ]
      refine alw_take (i := 3) (v := .pointer (some ⟨mb, 1, none⟩)) rfl (by kernel_rfl) (by kernel_rfl) (fun _ _ _ h => h) (.inl ⟨by rfl, fun W hW => exec_field (off := 0) (d := 1) rfl rfl (by kernel_rfl)⟩) hS0 ?_
      simp only [Act.put, List.setIfInBounds_toArray, List.set_cons_zero, List.set_cons_succ]
      refine alw_take (i := 4) (v := .slice FA9 fn fc) rfl (by kernel_rfl) (by kernel_rfl) (fun _ _ _ h => h) (.inl ⟨by rfl, fun W hW => exec_load1 rfl rfl (by kernel_rfl) (hW.cell 1)⟩) hS0 ?_
      simp only [Act.put, List.setIfInBounds_toArray, List.set_cons_zero, List.set_cons_succ]
      have HE1 := Lib.hid ((Turn.refl nowhere wd).alloc (.cells #[] 41))
      have HZ1 := Lib.hid ((Turn.refl nowhere wd).alloc (.cells #[.int .i64 0, .slice none 0 0] 35))
      refine alw_two (i := 2) (k := 7) (by kernel_rfl) rfl rfl rfl rfl ?_ ?_
      · intro K1 HK1
        refine wp_run (bx_slice0 rfl (build_f0 _)) ?_
        refine HK1.out _ _ ⟨HST.out _ HE1.out, ?_⟩
        clear HK1
        try simp only [Act.put, List.setIfInBounds_toArray, List.set_cons_zero, List.set_cons_succ]
        have HR1 := Lib.hid (own_madeQ (Turn.refl nowhere wd))
        refine alw_two (i := 5) (k := 7) (by kernel_rfl) rfl rfl rfl rfl ?_ ?_
        · obtain ⟨A5, c5, w5, hrun, hrow, ht5, hgr⟩ := own_appQ (c := fc) HR1.out HE1.out HFd.out HNIL.out
          intro K1 HK1
          refine wp_run (exec_append rfl rfl rfl hrun) ?_
          refine HK1.out _ _ ⟨HST.out _ ht5, ?_⟩
          clear HK1
          try simp only [Act.put, List.setIfInBounds_toArray, List.set_cons_zero, List.set_cons_succ]
          have hS9 := HST.out _ ht5
          refine alw_take (i := 6) (v := .agg #[.int .i64 ty, .slice A5 fn c5]) rfl (by kernel_rfl) (by kernel_rfl) (fun _ _ _ h => h) (.inl ⟨by rfl, fun W hW => gx_build2 rfl rfl rfl (build_msg2 ty A5 fn c5 W)⟩) hS9 ?_
          simp only [Act.put, List.setIfInBounds_toArray, List.set_cons_zero, List.set_cons_succ]
          refine alw_step (i := 7) (by kernel_rfl) rfl rfl ?_
          intro K1 HK1
          refine wp_run (gx_alloc rfl (zero_msg _)) ?_
          have hta := ht5.alloc (.cells #[.int .i64 0, .slice none 0 0] 35)
          refine HK1.out _ _ ⟨HST.out _ hta, ?_⟩
          clear HK1
          try simp only [Act.put, List.setIfInBounds_toArray, List.set_cons_zero, List.set_cons_succ]
          have hb6 := Blk.new w5 35 #[.int .i64 0, .slice none 0 0]
          have hr6 := Orw.still hrow ((Turn.refl nowhere w5).alloc (.cells #[.int .i64 0, .slice none 0 0] 35))
          refine alw_step (i := 8) (by kernel_rfl) rfl rfl ?_
          intro K1 HK1
          refine wp_store_rowU 35 (.tmp 8) (.tmp 44) rfl #[.int .i64 ty, .slice A5 fn c5] hb6 rfl rfl rfl (by rw [size_msg]; rfl) (msgA_one _ _ _ _) ?_
          intro w7 hb7 hu7
          have hend := own_endQ hr6 hb6 hta ht5.size hu7
          refine HK1.out _ _ ⟨HST.out _ hend.2.1, ?_⟩
          clear HK1
          try simp only [Act.put, List.setIfInBounds_toArray, List.set_cons_zero, List.set_cons_succ]
          refine alw_done rfl ?_
          refine NoPanic.normal ?_
          go_wp2_with fail
          go_meet
          exact ⟨_, A5, c5, rfl, by first | exact hb7 | simpa using hb7, by rw [← HSZ.out]; exact hend.1, HD.out.trans hend.2.1 (fun _ _ e => e), by have := hend.2.2; first | (rw [← HSZ.out]; exact this) | (rw [← HSZ.out]; omega)⟩
        · have hta := HE1.out.alloc (.cells #[.int .i64 0, .slice none 0 0] 35)
          intro K1 HK1
          refine wp_run (gx_alloc rfl (zero_msg _)) ?_
          refine HK1.out _ _ ⟨HST.out _ hta, ?_⟩
          clear HK1
          try simp only [Act.put, List.setIfInBounds_toArray, List.set_cons_zero, List.set_cons_succ]
          have hb6 := Blk.new (wd.alloc (.cells #[] 41)) 35 #[.int .i64 0, .slice none 0 0]
          obtain ⟨A5, c5, w5, hrun, hrow, ht5, hgr⟩ := own_appQ (c := fc) (Orw.still HR1.out ((Turn.refl nowhere (wd.alloc (.cells #[] 41))).alloc (.cells #[.int .i64 0, .slice none 0 0] 35))) hta HFd.out HNIL.out
          refine alw_step (i := 5) (by kernel_rfl) rfl rfl ?_
          intro K1 HK1
          refine wp_run (exec_append rfl rfl rfl hrun) ?_
          refine HK1.out _ _ ⟨HST.out _ ht5, ?_⟩
          clear HK1
          try simp only [Act.put, List.setIfInBounds_toArray, List.set_cons_zero, List.set_cons_succ]
          have hS9 := HST.out _ ht5
          refine alw_take (i := 6) (v := .agg #[.int .i64 ty, .slice A5 fn c5]) rfl (by kernel_rfl) (by kernel_rfl) (fun _ _ _ h => h) (.inl ⟨by rfl, fun W hW => gx_build2 rfl rfl rfl (build_msg2 ty A5 fn c5 W)⟩) hS9 ?_
          simp only [Act.put, List.setIfInBounds_toArray, List.set_cons_zero, List.set_cons_succ]
          have hb6 := hb6.grown hgr (by simp)
          refine alw_step (i := 8) (by kernel_rfl) rfl rfl ?_
          intro K1 HK1
          refine wp_store_rowU 35 (.tmp 8) (.tmp 44) rfl #[.int .i64 ty, .slice A5 fn c5] hb6 rfl rfl rfl (by rw [size_msg]; rfl) (msgA_one _ _ _ _) ?_
          intro w7 hb7 hu7
          have hend := own_endQ hrow hb6 ht5 (by simp) hu7
          refine HK1.out _ _ ⟨HST.out _ hend.2.1, ?_⟩
          clear HK1
          try simp only [Act.put, List.setIfInBounds_toArray, List.set_cons_zero, List.set_cons_succ]
          refine alw_done rfl ?_
          refine NoPanic.normal ?_
          go_wp2_with fail
          go_meet
          exact ⟨_, A5, c5, rfl, by first | exact hb7 | simpa using hb7, by rw [← HSZ.out]; exact hend.1, HD.out.trans hend.2.1 (fun _ _ e => e), by have := hend.2.2; first | (rw [← HSZ.out]; exact this) | (rw [← HSZ.out]; omega)⟩
      · intro K1 HK1
        refine wp_run (gx_alloc rfl (zero_msg _)) ?_
        refine HK1.out _ _ ⟨HST.out _ HZ1.out, ?_⟩
        clear HK1
        try simp only [Act.put, List.setIfInBounds_toArray, List.set_cons_zero, List.set_cons_succ]
        have hb60 := Blk.new wd 35 #[.int .i64 0, .slice none 0 0]
        have hR1 := own_madeQ HZ1.out
        have hta := HZ1.out.alloc (.cells #[] 41)
        refine alw_step (i := 2) (by kernel_rfl) rfl rfl ?_
        intro K1 HK1
        refine wp_run (bx_slice0 rfl (build_f0 _)) ?_
        refine HK1.out _ _ ⟨HST.out _ hta, ?_⟩
        clear HK1
        try simp only [Act.put, List.setIfInBounds_toArray, List.set_cons_zero, List.set_cons_succ]
        obtain ⟨A5, c5, w5, hrun, hrow, ht5, hgr⟩ := own_appQ (c := fc) hR1 hta HFd.out HNIL.out
        refine alw_step (i := 5) (by kernel_rfl) rfl rfl ?_
        intro K1 HK1
        refine wp_run (exec_append rfl rfl rfl hrun) ?_
        refine HK1.out _ _ ⟨HST.out _ ht5, ?_⟩
        clear HK1
        try simp only [Act.put, List.setIfInBounds_toArray, List.set_cons_zero, List.set_cons_succ]
        have hS9 := HST.out _ ht5
        refine alw_take (i := 6) (v := .agg #[.int .i64 ty, .slice A5 fn c5]) rfl (by kernel_rfl) (by kernel_rfl) (fun _ _ _ h => h) (.inl ⟨by rfl, fun W hW => gx_build2 rfl rfl rfl (build_msg2 ty A5 fn c5 W)⟩) hS9 ?_
        simp only [Act.put, List.setIfInBounds_toArray, List.set_cons_zero, List.set_cons_succ]
        have hb6 := (hb60.alloc (.cells #[] 41)).grown hgr (by simp)
        refine alw_step (i := 8) (by kernel_rfl) rfl rfl ?_
        intro K1 HK1
        refine wp_store_rowU 35 (.tmp 8) (.tmp 44) rfl #[.int .i64 ty, .slice A5 fn c5] hb6 rfl rfl rfl (by rw [size_msg]; rfl) (msgA_one _ _ _ _) ?_
        intro w7 hb7 hu7
        have hend := own_endQ hrow hb6 ht5 (Nat.le_refl _) hu7
        refine HK1.out _ _ ⟨HST.out _ hend.2.1, ?_⟩
        clear HK1
        try simp only [Act.put, List.setIfInBounds_toArray, List.set_cons_zero, List.set_cons_succ]
        refine alw_done rfl ?_
        refine NoPanic.normal ?_
        go_wp2_with fail
        go_meet
        exact ⟨_, A5, c5, rfl, by first | exact hb7 | simpa using hb7, by rw [← HSZ.out]; exact hend.1, HD.out.trans hend.2.1 (fun _ _ e => e), by have := hend.2.2; first | (rw [← HSZ.out]; exact this) | (rw [← HSZ.out]; omega)⟩
    obtain ⟨go, A7, c7, rfl, hbo, hro, hto, hgo⟩ := hcut
    have HBgo := Lib.hid hbo
    have HFo := Lib.hid hro
    have HTo := Lib.hid hto
    have HLgo := Lib.hid hgo
    clear hbo hro hto hgo
    have HTL := Lib.hid (show w.heap.size ≤ wd.heap.size from HTD.out.size)
    have HTW := Lib.hid (HTD.out.trans HTo.out fun _ _ e => e)
    have hqd := HQ.out.still HTW.out.drew
    have hoff := hqd.off
    clear HX HXL HTD HMBd HFd0
    obtain ⟨⟨Aq, cq, xq, hb, hr, hx, hz⟩, hlen, hmax, hway⟩ := hqd
    have hxl : xq.length = j := by rw [HN.out, ← hx, List.length_map]
    rw [← HN.out] at hb hr hlen
    have HB := Lib.hid hb
    have HBod := Lib.hid (show Blk wc.drew go 35 #[.int .i64 ty, .slice A7 fn c7] from HBgo.out)
    have HFod := Lib.hid (show Fr wc.drew wd.heap.size (.slice A7 fn c7) fs from Orw.still HFo.out (Turn.refl nowhere wc).drew)
    obtain ⟨x, hxe⟩ : ∃ x : Adx, x = ⟨nm, ty, A7, fn, c7, fs⟩ := ⟨_, rfl⟩
    have hxc : x.cs = [strV nm, .int .i64 ty, .slice A7 fn c7] := by rw [hxe]; rfl
    have HXC := Lib.hid hxc
    have HXE := Lib.hid hxe
    have HRW := Lib.hid (hr.rws (by rw [List.length_map]; omega) (by decide))
    have HNR := Lib.hid (show Aq = none → cq = 0 from by
      obtain ⟨A', c', e, _, _, h9, _⟩ := hr.form
      injection e with e1 _ e3
      rw [e1, e3]
      exact h9)
    have HXL := Lib.hid hxl
    have HTWd := Lib.hid HTW.out.drew
    have HJM := Lib.hid (show l.length < m from by have := HH.out.2; have := HN.out; omega)
    have HEND := Lib.hid (show ∀ (w' : World) (A4 : Option Addr) (c4 B : Nat), Blk w' y 59 #[.int .i64 (m : Int), .slice A4 (j + 1) c4, .bool s] → Orw w' B 66 3 (.slice A4 (j + 1) c4) (xq.map Adx.cs ++ [x.cs]) → Turn (only y) wc.drew w' → RQue w' (fun k => Z k ∨ w.heap.size ≤ k) y m (l ++ [(nm, ty, fs)]) s from fun w' A4 c4 B h1 h2 h3 => by
      have hq := RQue.more (Z' := fun k => Z k ∨ w.heap.size ≤ k) (x := x) (s := s) hoff hx hz HJM.out hmax (by rw [← HN.out]; exact h1) (by rw [← HN.out]; exact h2) ⟨?_, ?_, ?_, ?_⟩ h3 fun k hk => .inl hk
      · rw [hxe] at hq
        exact hq
      · rw [hxe]
        refine (Orw.less HFod.out (Nat.zero_le _)).turn h3 fun b2 hb2 => ?_
        obtain ⟨cur, hc⟩ := Orw.own_blk HFod.out hb2
        exact hoff b2 _ cur hc (by decide)
      · rw [hxe]; exact HFL.out.symm
      · rw [hxe]; exact yf
      · rw [hxe]
        intro b2 hb2
        have := (Orw.lt HFod.out hb2).1
        have := HTL.out
        exact .inr (by omega))
    go_upto_region 9 with fail
    refine wp_region_till (fun W => Blk W y 59 #[.int .i64 (m : Int), .slice Aq j cq, .bool s] ∧ Blk W go 35 #[.int .i64 ty, .slice A7 fn c7]) 12 (by kernel_rfl) ?_
    have hS0 : (fun W => Blk W y 59 #[.int .i64 (m : Int), .slice Aq j cq, .bool s] ∧ Blk W go 35 #[.int .i64 ty, .slice A7 fn c7]) wc.drew := ⟨HB.out, HBod.out⟩
    have HBO := Lib.hid (fun W => build_one elmR x.cs (by rw [HXC.out]; rfl) (by decide) (.agg #[strV nm, .int .i64 ty, .slice A7 fn c7]) (by rw [HXC.out]; rfl) W)
    have HX3 := Lib.hid (show x.cs.length = 3 from by rw [HXC.out]; rfl)
    clear hb hr hx hz hlen hmax hway hxl hxe hxc hoff HBgo HFo HTo HTW HD6 HFod HN
    generalize wc.drew = w0 at *
    refine till_take (i := 0) (v := .pointer (some ⟨y, 0, none⟩)) rfl (by kernel_rfl) (by kernel_rfl) (fun _ _ _ h => h) (.inl ⟨by rfl, fun W hW => exec_move rfl rfl⟩) hS0 ?_
    simp only [Act.put, List.setIfInBounds_toArray, List.set_cons_zero, List.set_cons_succ]
    refine till_take (i := 2) (v := .pointer (some ⟨y, 0, none⟩)) rfl (by kernel_rfl) (by kernel_rfl) (fun _ _ _ h => h) (.inl ⟨by rfl, fun W hW => exec_move rfl rfl⟩) hS0 ?_
    simp only [Act.put, List.setIfInBounds_toArray, List.set_cons_zero, List.set_cons_succ]
    refine till_take (i := 3) (v := .pointer (some ⟨y, 0, none⟩)) rfl (by kernel_rfl) (by kernel_rfl) (fun _ _ _ h => h) (.inl ⟨by rfl, fun W hW => exec_nil rfl rfl⟩) hS0 ?_
    simp only [Act.put, List.setIfInBounds_toArray, List.set_cons_zero, List.set_cons_succ]
    refine till_take (i := 4) (v := .pointer (some ⟨y, 1, none⟩)) rfl (by kernel_rfl) (by kernel_rfl) (fun _ _ _ h => h) (.inl ⟨by rfl, fun W hW => exec_field (off := 0) (d := 1) rfl rfl (by kernel_rfl)⟩) hS0 ?_
    simp only [Act.put, List.setIfInBounds_toArray, List.set_cons_zero, List.set_cons_succ]
    refine till_take (i := 5) (v := .slice Aq j cq) rfl (by kernel_rfl) (by kernel_rfl) (fun _ _ _ h => h) (.inl ⟨by rfl, fun W hW => exec_load1 rfl rfl (by kernel_rfl) (hW.1.cell 1)⟩) hS0 ?_
    simp only [Act.put, List.setIfInBounds_toArray, List.set_cons_zero, List.set_cons_succ]
    refine till_take (i := 7) (v := strV nm) rfl (by kernel_rfl) (by kernel_rfl) (fun _ _ _ h => h) (.inl ⟨by rfl, fun W hW => exec_move rfl rfl⟩) hS0 ?_
    simp only [Act.put, List.setIfInBounds_toArray, List.set_cons_zero, List.set_cons_succ]
    refine till_take (i := 8) (v := .agg #[.int .i64 ty, .slice A7 fn c7]) rfl (by kernel_rfl) (by kernel_rfl) (fun _ _ _ h => h) (.inl ⟨by rfl, fun W hW => gx_loads rfl rfl (blk_range hW.2) Try.underlying35 rfl (by rw [size_msg]; rfl)⟩) hS0 ?_
    simp only [Act.put, List.setIfInBounds_toArray, List.set_cons_zero, List.set_cons_succ]
    refine till_take (i := 9) (v := .agg #[strV nm, .int .i64 ty, .slice A7 fn c7]) rfl (by kernel_rfl) (by kernel_rfl) (fun _ _ _ h => h) (.inl ⟨by rfl, fun W hW => gx_build2 rfl rfl rfl (rbuild_ad nm ty _ fn c7 _)⟩) hS0 ?_
    simp only [Act.put, List.setIfInBounds_toArray, List.set_cons_zero, List.set_cons_succ]
    have htE := (Turn.refl nowhere w0).alloc (.cells #[] 66)
    have htO := (Turn.refl nowhere w0).alloc (.cells x.cs.toArray 66)
    clear hS0
    refine till_two (i := 1) (j := 10) (by kernel_rfl) rfl rfl rfl rfl ?_ ?_
    · intro K1 HK1
      refine wp_run (bx_slice0 rfl (build0_ra _)) ?_
      refine HK1.out _ _ ⟨fun _ => ⟨HB.out.turn htE fun e => e, HBod.out.turn htE fun e => e⟩, ?_⟩
      clear HK1
      try simp only [Act.put, List.setIfInBounds_toArray, List.set_cons_zero, List.set_cons_succ]
      have hm := orw_made (et := 66) (k := 3) (Turn.refl nowhere w0)
      refine till_two (i := 6) (j := 10) (by kernel_rfl) rfl rfl rfl rfl ?_ ?_
      · obtain ⟨A3, c3, w3, hr3, ho3, ht3, hg3⟩ := orw_onto elmR (ty := 57) (c := cq) hm htE (HRW.out.still htE) (fit_ad xq) HNR.out (by omega)
        intro K1 HK1
        refine wp_run (exec_append rfl rfl rfl hr3) ?_
        refine HK1.out _ _ ⟨fun _ => ⟨HB.out.turn ht3 fun e => e, HBod.out.turn ht3 fun e => e⟩, ?_⟩
        clear HK1
        try simp only [Act.put, List.setIfInBounds_toArray, List.set_cons_zero, List.set_cons_succ]
        have hta := ht3.alloc (.cells x.cs.toArray 66)
        refine till_step (i := 10) (by kernel_rfl) rfl rfl ?_
        intro K1 HK1
        refine wp_run (exec_buildSlice1 rfl rfl (HBO.out _)) ?_
        refine HK1.out _ _ ⟨fun _ => ⟨HB.out.turn hta fun e => e, HBod.out.turn hta fun e => e⟩, ?_⟩
        clear HK1
        try simp only [Act.put, List.setIfInBounds_toArray, List.set_cons_zero, List.set_cons_succ]
        obtain ⟨A4, c4, w4, hr4, ho4, ht4⟩ := orw_more elmR (ty := 57) (c := 1) (ho3.still ((Turn.refl nowhere w3).alloc (.cells x.cs.toArray 66))) hta (rws_one HX3.out fun _ => trivial) (Fit.one HX3.out (adx_one x)) (fun e => by cases e) (by rw [List.length_map, HXL.out]; omega)
        rw [List.length_map, HXL.out] at hr4 ho4
        refine till_step (i := 11) (by kernel_rfl) rfl rfl ?_
        intro K1 HK1
        refine wp_run (exec_append rfl rfl rfl hr4) ?_
        refine HK1.out _ _ ⟨fun _ => ⟨HB.out.turn ht4 fun e => e, HBod.out.turn ht4 fun e => e⟩, ?_⟩
        clear HK1
        try simp only [Act.put, List.setIfInBounds_toArray, List.set_cons_zero, List.set_cons_succ]
        have HO4 := Lib.hid ho4
        have HT4 := Lib.hid ht4
        have HB4 := Lib.hid (HB.out.turn ht4 fun e => e)
        refine till_tail 12 rfl (by kernel_rfl) ?_
        refine wpList_run (v := .pointer (some ⟨y, 0, none⟩)) (wanted_none rfl) (exec_nil rfl rfl) ?_
        simp only [Act.put, List.setIfInBounds_toArray, List.set_cons_zero, List.set_cons_succ]
        refine wpList_run (v := .pointer (some ⟨y, 1, none⟩)) (wanted_none rfl) (exec_field (off := 0) (d := 1) rfl rfl (by kernel_rfl)) ?_
        simp only [Act.put, List.setIfInBounds_toArray, List.set_cons_zero, List.set_cons_succ]
        refine wpList_storeU 1 (.slice A4 (j + 1) c4) (wanted_none rfl) 57 _ _ rfl HB4.out rfl rfl (by show 1 < 3; omega) ⟨rfl, rfl⟩ (by kernel_rfl) ?_
        intro w5 hb5 ht5
        simp only [Act.put, List.setIfInBounds_toArray, List.set_cons_zero, List.set_cons_succ]
        have HT5 := Lib.hid ((HT4.out.mono (G := only y) fun _ _ e => e.elim).trans ht5 fun _ _ e => e)
        have HF9 := Lib.hid (HEND.out w5 A4 c4 _ hb5 (HO4.out.turn ht5 fun b2 hb2 e => by
          have := (HO4.out.lt hb2).1
          have e : b2 = y := e
          have := HB.out.lt
          omega) HT5.out)
        have HTE := Lib.hid ((HTWd.out.mono (G := only y) fun _ _ e => e.elim).trans HT5.out fun _ _ e => e)
        clear hb5 ht5
        refine wpList_nil ?_
        refine NoPanic.normal ?_
        go_upto_region 10 with fail
        refine wp_region_lit ?_
        refine wpList_run (v := .int .i64 0) (wanted_none rfl) (gx_assign rfl rfl) ?_
        simp only [Act.put, List.setIfInBounds_toArray, List.set_cons_zero, List.set_cons_succ]
        go_wp2_with fail
        go_ret
        exact ⟨rfl, HF9.out, HTE.out⟩
      · have hta := htE.alloc (.cells x.cs.toArray 66)
        intro K1 HK1
        refine wp_run (exec_buildSlice1 rfl rfl (HBO.out _)) ?_
        refine HK1.out _ _ ⟨fun _ => ⟨HB.out.turn hta fun e => e, HBod.out.turn hta fun e => e⟩, ?_⟩
        clear HK1
        try simp only [Act.put, List.setIfInBounds_toArray, List.set_cons_zero, List.set_cons_succ]
        have hbo := Blk.new (w0.alloc (.cells #[] 66)) 66 x.cs.toArray
        have hm2 := hm.still ((Turn.refl nowhere (w0.alloc (.cells #[] 66))).alloc (.cells x.cs.toArray 66))
        refine till_step (i := 6) (by kernel_rfl) rfl rfl ?_
        obtain ⟨A3, c3, w3, hr3, ho3, ht3, hg3⟩ := orw_onto elmR (ty := 57) (c := cq) hm2 hta (HRW.out.still hta) (fit_ad xq) HNR.out (by omega)
        intro K1 HK1
        refine wp_run (exec_append rfl rfl rfl hr3) ?_
        refine HK1.out _ _ ⟨fun _ => ⟨HB.out.turn ht3 fun e => e, HBod.out.turn ht3 fun e => e⟩, ?_⟩
        clear HK1
        try simp only [Act.put, List.setIfInBounds_toArray, List.set_cons_zero, List.set_cons_succ]
        obtain ⟨A4, c4, w4, hr4, ho4, ht4⟩ := orw_more elmR (ty := 57) (c := 1) ho3 ht3 (rws_blk (hbo.grown hg3 (by simp)) HX3.out) (Fit.one HX3.out (adx_one x)) (fun e => by cases e) (by rw [List.length_map, HXL.out]; omega)
        rw [List.length_map, HXL.out] at hr4 ho4
        refine till_step (i := 11) (by kernel_rfl) rfl rfl ?_
        intro K1 HK1
        refine wp_run (exec_append rfl rfl rfl hr4) ?_
        refine HK1.out _ _ ⟨fun _ => ⟨HB.out.turn ht4 fun e => e, HBod.out.turn ht4 fun e => e⟩, ?_⟩
        clear HK1
        try simp only [Act.put, List.setIfInBounds_toArray, List.set_cons_zero, List.set_cons_succ]
        have HO4 := Lib.hid ho4
        have HT4 := Lib.hid ht4
        have HB4 := Lib.hid (HB.out.turn ht4 fun e => e)
        refine till_tail 12 rfl (by kernel_rfl) ?_
        refine wpList_run (v := .pointer (some ⟨y, 0, none⟩)) (wanted_none rfl) (exec_nil rfl rfl) ?_
        simp only [Act.put, List.setIfInBounds_toArray, List.set_cons_zero, List.set_cons_succ]
        refine wpList_run (v := .pointer (some ⟨y, 1, none⟩)) (wanted_none rfl) (exec_field (off := 0) (d := 1) rfl rfl (by kernel_rfl)) ?_
        simp only [Act.put, List.setIfInBounds_toArray, List.set_cons_zero, List.set_cons_succ]
        refine wpList_storeU 1 (.slice A4 (j + 1) c4) (wanted_none rfl) 57 _ _ rfl HB4.out rfl rfl (by show 1 < 3; omega) ⟨rfl, rfl⟩ (by kernel_rfl) ?_
        intro w5 hb5 ht5
        simp only [Act.put, List.setIfInBounds_toArray, List.set_cons_zero, List.set_cons_succ]
        have HT5 := Lib.hid ((HT4.out.mono (G := only y) fun _ _ e => e.elim).trans ht5 fun _ _ e => e)
        have HF9 := Lib.hid (HEND.out w5 A4 c4 _ hb5 (HO4.out.turn ht5 fun b2 hb2 e => by
          have := (HO4.out.lt hb2).1
          have e : b2 = y := e
          have := HB.out.lt
          omega) HT5.out)
        have HTE := Lib.hid ((HTWd.out.mono (G := only y) fun _ _ e => e.elim).trans HT5.out fun _ _ e => e)
        clear hb5 ht5
        refine wpList_nil ?_
        refine NoPanic.normal ?_
        go_upto_region 10 with fail
        refine wp_region_lit ?_
        refine wpList_run (v := .int .i64 0) (wanted_none rfl) (gx_assign rfl rfl) ?_
        simp only [Act.put, List.setIfInBounds_toArray, List.set_cons_zero, List.set_cons_succ]
        go_wp2_with fail
        go_ret
        exact ⟨rfl, HF9.out, HTE.out⟩
    · intro K1 HK1
      refine wp_run (exec_buildSlice1 rfl rfl (HBO.out _)) ?_
      refine HK1.out _ _ ⟨fun _ => ⟨HB.out.turn htO fun e => e, HBod.out.turn htO fun e => e⟩, ?_⟩
      clear HK1
      try simp only [Act.put, List.setIfInBounds_toArray, List.set_cons_zero, List.set_cons_succ]
      have hta := htO.alloc (.cells #[] 66)
      have hbo := (Blk.new w0 66 x.cs.toArray).alloc (.cells #[] 66)
      have hm := orw_made (et := 66) (k := 3) htO
      refine till_step (i := 1) (by kernel_rfl) rfl rfl ?_
      intro K1 HK1
      refine wp_run (bx_slice0 rfl (build0_ra _)) ?_
      refine HK1.out _ _ ⟨fun _ => ⟨HB.out.turn hta fun e => e, HBod.out.turn hta fun e => e⟩, ?_⟩
      clear HK1
      try simp only [Act.put, List.setIfInBounds_toArray, List.set_cons_zero, List.set_cons_succ]
      refine till_step (i := 6) (by kernel_rfl) rfl rfl ?_
      obtain ⟨A3, c3, w3, hr3, ho3, ht3, hg3⟩ := orw_onto elmR (ty := 57) (c := cq) hm hta (HRW.out.still hta) (fit_ad xq) HNR.out (by omega)
      intro K1 HK1
      refine wp_run (exec_append rfl rfl rfl hr3) ?_
      refine HK1.out _ _ ⟨fun _ => ⟨HB.out.turn ht3 fun e => e, HBod.out.turn ht3 fun e => e⟩, ?_⟩
      clear HK1
      try simp only [Act.put, List.setIfInBounds_toArray, List.set_cons_zero, List.set_cons_succ]
      obtain ⟨A4, c4, w4, hr4, ho4, ht4⟩ := orw_more elmR (ty := 57) (c := 1) ho3 ht3 (rws_blk (hbo.grown hg3 (by simp)) HX3.out) (Fit.one HX3.out (adx_one x)) (fun e => by cases e) (by rw [List.length_map, HXL.out]; omega)
      rw [List.length_map, HXL.out] at hr4 ho4
      refine till_step (i := 11) (by kernel_rfl) rfl rfl ?_
      intro K1 HK1
      refine wp_run (exec_append rfl rfl rfl hr4) ?_
      refine HK1.out _ _ ⟨fun _ => ⟨HB.out.turn ht4 fun e => e, HBod.out.turn ht4 fun e => e⟩, ?_⟩
      clear HK1
      try simp only [Act.put, List.setIfInBounds_toArray, List.set_cons_zero, List.set_cons_succ]
      have HO4 := Lib.hid ho4
      have HT4 := Lib.hid ht4
      have HB4 := Lib.hid (HB.out.turn ht4 fun e => e)
      refine till_tail 12 rfl (by kernel_rfl) ?_
      refine wpList_run (v := .pointer (some ⟨y, 0, none⟩)) (wanted_none rfl) (exec_nil rfl rfl) ?_
      simp only [Act.put, List.setIfInBounds_toArray, List.set_cons_zero, List.set_cons_succ]
      refine wpList_run (v := .pointer (some ⟨y, 1, none⟩)) (wanted_none rfl) (exec_field (off := 0) (d := 1) rfl rfl (by kernel_rfl)) ?_
      simp only [Act.put, List.setIfInBounds_toArray, List.set_cons_zero, List.set_cons_succ]
      refine wpList_storeU 1 (.slice A4 (j + 1) c4) (wanted_none rfl) 57 _ _ rfl HB4.out rfl rfl (by show 1 < 3; omega) ⟨rfl, rfl⟩ (by kernel_rfl) ?_
      intro w5 hb5 ht5
      simp only [Act.put, List.setIfInBounds_toArray, List.set_cons_zero, List.set_cons_succ]
      have HT5 := Lib.hid ((HT4.out.mono (G := only y) fun _ _ e => e.elim).trans ht5 fun _ _ e => e)
      have HF9 := Lib.hid (HEND.out w5 A4 c4 _ hb5 (HO4.out.turn ht5 fun b2 hb2 e => by
        have := (HO4.out.lt hb2).1
        have e : b2 = y := e
        have := HB.out.lt
        omega) HT5.out)
      have HTE := Lib.hid ((HTWd.out.mono (G := only y) fun _ _ e => e.elim).trans HT5.out fun _ _ e => e)
      clear hb5 ht5
      refine wpList_nil ?_
      refine NoPanic.normal ?_
      go_upto_region 10 with fail
      refine wp_region_lit ?_
      refine wpList_run (v := .int .i64 0) (wanted_none rfl) (gx_assign rfl rfl) ?_
      simp only [Act.put, List.setIfInBounds_toArray, List.set_cons_zero, List.set_cons_succ]
      go_wp2_with fail
      go_ret
      exact ⟨rfl, HF9.out, HTE.out⟩
end Go.Proofs.Ytkcedcllefcboaa
