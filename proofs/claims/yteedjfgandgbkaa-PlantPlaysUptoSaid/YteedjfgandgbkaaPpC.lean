/-
  The reference's plant: Write, with what it does to its blocks: the walk. No conditions.
-/
import Derived.Test.YteedjfgandgbkaaPpB
namespace Go.Proofs.Yteedjfgandgbkaa
open Go.RowKit Go.Maps
set_option linter.unusedVariables false
set_option linter.unusedSimpArgs false
set_option maxRecDepth 20000 in
set_option maxHeartbeats 2000000 in
theorem rwrite_at {w : World} {q i k : Nat} {A B : Option Addr} {n cap bc : Nat} {zs : List Int} {hv wv : Value} {burns b2 : Bool} {left done l2 d2 dn : Int} {rs : List (List Value)} {s : Sec} (hb : Blk w q 49 (refCells (.slice A n cap) hv wv false burns left done)) (hz : Ks w nowhere A n zs) (hw : Orw w 0 72 3 wv rs) (hi : i < n) (hzd : zs.getD i 0 = dn) (hk : (k : Int) < dn) (hR : rs.length < 1099511627776) (hbs : Bs w B 64 s.1)
    (hst : Calls Try.prog 30 #[.pointer (some ⟨q, 0, none⟩)] w fun e w' => e = .returned (.bool true) ∧ Blk w' q 49 (refCells (.slice A n cap) hv wv false b2 l2 d2) ∧ Turn (only q) w w') (hqb : ∀ b off s', B = some ⟨b, off, s'⟩ → b ≠ q) :
    Calls Try.prog 12 #[.pointer (some ⟨q, 0, none⟩), .int .i64 (i : Int), .int .i64 (k : Int), .slice B 64 bc] w fun e w' => ∃ v' u, e = .returned (.int .i64 0) ∧ Blk w' q 49 (refCells (.slice A n cap) hv v' false b2 l2 d2) ∧ Orw w' 0 72 3 v' (rs ++ [[.int .i64 (i : Int), .int .i64 (k : Int), u]]) ∧ SecZ w' (fun b => w.heap.size ≤ b ∧ b < w'.heap.size) u (some s) ∧ Turn (fun j => j = q ∨ some j = wv.ownBlock) w w' ∧ (v'.ownBlock = wv.ownBlock ∨ ∃ g, v'.ownBlock = some g ∧ w.heap.size ≤ g) := by
  have HH := Lib.hid (rhas_good hb i hi)
  have c3 : w.cell? ⟨q, 3, none⟩ = some (.bool false) := hb.cell 3
  obtain ⟨_, _, hcz⟩ := hz
  obtain ⟨gz, oz, rfl, hgz, _, hcell⟩ := hcz (by omega)
  have c0 : w.cell? ⟨q, 0, none⟩ = some (.slice (some ⟨gz, oz, none⟩) n cap) := hb.cell 0
  have cz := hcell i hi
  rw [hzd] at cz
  have y1 : (0 : Int) ≤ (i : Int) := by omega
  have y2 : (i : Int) < (n : Int) := by omega
  have y3 : (0 : Int) ≤ (k : Int) := by omega
  have HB := Lib.hid hb
  have HW := Lib.hid hw
  have HR := Lib.hid hR
  have HBS := Lib.hid hbs
  have HST := Lib.hid hst
  have HQB := Lib.hid hqb
  clear hb hi hcz hcell hw hR hbs hst hqb hzd
  go_enter Try.func12, Try.ntmps12
  go_upto_region 9 with (first
    | (go_at_call 29; refine HH.out.mono ?_; rintro e w' ⟨rfl, rfl⟩)
    | (go_at_call 30; refine HST.out.mono ?_; rintro e w2 ⟨rfl, hb2, ht2⟩))
  have hbs2 : Bs w2 B 64 s.1 := HBS.out.turn ht2 (fun b off s' e _ _ h => HQB.out b off s' e h)
  have hneq : ∀ j (cs : Array Value) (t : TypeId), w.heap[j]? = some (.cells cs t (0, 0)) → t ≠ 49 → j ≠ q := fun j cs t h1 h2 e => by
    subst e
    exact (show Blk w j t cs from h1).ne_ HB.out h2 rfl
  have hw2 := HW.out.turn ht2 (fun j hj e => by
    obtain ⟨cur, h1⟩ := HW.out.own_blk hj
    exact hneq j cur _ h1 (by decide) e)
  have hdr : Turn nowhere w2 w2.drew := Turn.drew (Turn.refl nowhere w2)
  obtain ⟨A6, c6, w6, hrun6, hown6, ht6, hnew6⟩ := copy_src (ty := 36) (c := bc) (hbs2.still hdr) (fun e => by
    obtain ⟨b, off, e2, _⟩ := hbs2.2.2 (by omega)
    rw [e] at e2
    cases e2) (by omega)
  obtain ⟨g6, cu6, rfl, hh6, hc6⟩ : ∃ g6 cu6, A6 = some ⟨g6, 0, none⟩ ∧ w6.heap[g6]? = some (.cells cu6 5 (0, 0)) ∧ 64 ≤ c6 := by
    have hle := hown6.bs.2.1
    rcases hown6.2 with ⟨e, h0⟩ | ⟨g, cap, cur, e, _, hg, _⟩
    · injection e with _ e2 _
      cases e2
    · injection e with e1 e2 e3
      exact ⟨g, cur, e1, hg, hle⟩
  have hw6 := (hw2.still hdr).still ht6
  have hb6 := (hb2.drew).turn ht6 (fun e => e)
  have hv1 := hw6.2
  obtain ⟨i0, hi0, hz0, hz1, hz2⟩ := info_parts info_waitR
  have hbuild := run_buildSlice_one (P := Try.prog) (v := Value.agg #[.int .i64 (i : Int), .int .i64 (k : Int), .slice (some ⟨g6, 0, none⟩) 64 c6]) Try.underlying47 hi0 hz0 (by rw [hz1]; rfl) (by rw [hz1]; rfl) (by omega) (by omega) w6
  have hta := (Turn.refl nowhere w6).alloc (.cells #[.int .i64 (i : Int), .int .i64 (k : Int), .slice (some ⟨g6, 0, none⟩) 64 c6] 72)
  have hnb := Blk.new w6 72 #[.int .i64 (i : Int), .int .i64 (k : Int), .slice (some ⟨g6, 0, none⟩) 64 c6]
  obtain ⟨v8, w8, hrun8, hown8, hg8, _, hat8⟩ := run_append_own_at (P := Try.prog) (w6.alloc (.cells #[.int .i64 (i : Int), .int .i64 (k : Int), .slice (some ⟨g6, 0, none⟩) 64 c6] 72)) 0 47 47 72 i0 _ 3 40 Try.underlying47 hi0 hz0 hz1 hz2
    rfl (by omega) wv rs.length rs.flatten (hv1.alloc _) ⟨w6.heap.size, 0, none⟩ 1 1 [.int .i64 (i : Int), .int .i64 (k : Int), .slice (some ⟨g6, 0, none⟩) 64 c6] rfl (fun j u hj => by
      rw [add_nat, Nat.zero_add, hnb.cell j]
      simpa using hj) (by simp [Value.oneCell']) (by have := HR.out; unfold maxLen; omega) (by have := HR.out; omega) (Nat.zero_le _)
  have hS0 : w2.drew.cell? ⟨q, 2, none⟩ = some wv := hb2.cell 2
  have hS6 : w6.cell? ⟨q, 2, none⟩ = some wv := hb6.cell 2
  have ht68 : Turn (fun j => some j = wv.ownBlock) w6 w8 := (hta.mono (fun _ _ e => e.elim)).grown hg8 (fun b e hb => e.symm)
  have hqw : ¬ (some q = wv.ownBlock) := fun e => by
    obtain ⟨cur, h1⟩ := hw6.own_blk e.symm
    exact hb6.ne_ (show Blk w6 q _ cur from h1) (by decide) rfl
  have hb8 := hb6.turn ht68 hqw
  have hu8 : ∀ j cu, w6.heap[j]? = some (.cells cu 5 (0, 0)) → ¬ (some j = wv.ownBlock) := fun j cu h1 e => by
    obtain ⟨cur, h2⟩ := hw6.own_blk e.symm
    exact (show Blk w6 j _ cu from h1).ne_ (show Blk w6 j _ cur from h2) (by decide) rfl
  have hx8 : SecV w8 (.slice (some ⟨g6, 0, none⟩) 64 c6) (some s) := secv_turn (.inr ⟨s, g6, 0, c6, cu6, rfl, rfl, hc6, hown6.bs.1, hh6⟩) ht68 hu8
  have HW8 := Lib.hid (show Orw w8 0 72 3 v8 (rs ++ [[.int .i64 (i : Int), .int .i64 (k : Int), .slice (some ⟨g6, 0, none⟩) 64 c6]]) from ⟨Fit.app hw6.1 (Fit.one rfl (by simp [Value.oneCell'])), by
    rw [List.length_append, List.flatten_append]
    exact hown8⟩)
  have HX8 := Lib.hid hx8
  have HG6 := Lib.hid (show w.heap.size ≤ g6 ∧ g6 < w8.heap.size from ⟨Nat.le_trans ht2.size (hnew6 g6 rfl), by
    have h1 := (Array.getElem?_eq_some_iff.1 hh6).1
    have h2 := ht68.size
    omega⟩)
  have HT8 := Lib.hid (show Turn (fun j => j = q ∨ some j = wv.ownBlock) w w8 from (((ht2.mono (fun j _ e => (Or.inl e : j = q ∨ some j = wv.ownBlock))).trans hdr (fun _ _ e => e.elim)).trans ht6 (fun _ _ e => e.elim)).trans ht68 (fun _ _ e => .inr e))
  have HN8 := Lib.hid (show v8.ownBlock = wv.ownBlock ∨ ∃ g, v8.ownBlock = some g ∧ w.heap.size ≤ g from by
    rcases hat8 with h | h
    · exact .inl h
    · refine .inr ⟨_, h, ?_⟩
      have h1 := ht2.size
      have h2 := ht6.size
      have h3 := hta.size
      simp at *
      omega)
  have hform : ∃ A8 c8, v8 = .slice A8 (rs.length + 1) c8 := own_form8 hown8
  obtain ⟨A8, c8, rfl⟩ := hform
  have HB8 := Lib.hid hb8
  refine wp_region_till (fun W => W.cell? ⟨q, 2, none⟩ = some wv) 12 (by kernel_rfl) ?_
  refine till_pure (i := 0) (v := .pointer (some ⟨q, 0, none⟩)) rfl (by kernel_rfl) (by kernel_rfl) (fun _ _ _ h => h) (.inl ⟨by rfl, fun W hW => exec_move rfl rfl⟩) hS0 ?_
  simp only [Act.put, List.setIfInBounds_toArray, List.set_cons_zero, List.set_cons_succ]
  refine till_pure (i := 1) (v := .pointer (some ⟨q, 0, none⟩)) rfl (by kernel_rfl) (by kernel_rfl) (fun _ _ _ h => h) (.inl ⟨by rfl, fun W hW => exec_move rfl rfl⟩) hS0 ?_
  simp only [Act.put, List.setIfInBounds_toArray, List.set_cons_zero, List.set_cons_succ]
  refine till_pure (i := 2) (v := .pointer (some ⟨q, 0, none⟩)) rfl (by kernel_rfl) (by kernel_rfl) (fun _ _ _ h => h) (.inl ⟨by rfl, fun W hW => exec_nil rfl rfl⟩) hS0 ?_
  simp only [Act.put, List.setIfInBounds_toArray, List.set_cons_zero, List.set_cons_succ]
  refine till_pure (i := 3) (v := .pointer (some ⟨q, 2, none⟩)) rfl (by kernel_rfl) (by kernel_rfl) (fun _ _ _ h => h) (.inl ⟨by rfl, fun W hW => exec_field (off := 0) (d := 2) rfl rfl (by kernel_rfl)⟩) hS0 ?_
  simp only [Act.put, List.setIfInBounds_toArray, List.set_cons_zero, List.set_cons_succ]
  refine till_take (i := 4) (v := wv) rfl (by kernel_rfl) (by kernel_rfl) (fun _ _ _ h => h) (.inl ⟨by rfl, fun W hW => exec_load1 rfl rfl (by kernel_rfl) hW⟩) hS0 ?_
  simp only [Act.put, List.setIfInBounds_toArray, List.set_cons_zero, List.set_cons_succ]
  refine till_pure (i := 5) (v := .int .i64 (i : Int)) rfl (by kernel_rfl) (by kernel_rfl) (fun _ _ _ h => h) (.inl ⟨by rfl, fun W hW => exec_move rfl rfl⟩) hS0 ?_
  simp only [Act.put, List.setIfInBounds_toArray, List.set_cons_zero, List.set_cons_succ]
  refine till_pure (i := 6) (v := .int .i64 (k : Int)) rfl (by kernel_rfl) (by kernel_rfl) (fun _ _ _ h => h) (.inl ⟨by rfl, fun W hW => exec_move rfl rfl⟩) hS0 ?_
  simp only [Act.put, List.setIfInBounds_toArray, List.set_cons_zero, List.set_cons_succ]
  refine till_pure (i := 8) (v := .slice B 64 bc) rfl (by kernel_rfl) (by kernel_rfl) (fun _ _ _ h => h) (.inl ⟨by rfl, fun W hW => exec_move rfl rfl⟩) hS0 ?_
  simp only [Act.put, List.setIfInBounds_toArray, List.set_cons_zero, List.set_cons_succ]
  refine till_only (i := 7) (by kernel_rfl) rfl rfl ?_
  refine wp_run (v := .slice (some ⟨w2.drew.heap.size, 0, none⟩) 0 0) (exec_buildNone rfl (build_noneB _)) ?_
  refine ⟨fun _ => by rw [World.cell?_of_block (Below.heap_alloc w2.drew _ _ (World.block_lt_of_cell? _ _ hS0))]; exact hS0, ?_⟩
  simp only [Act.put, List.setIfInBounds_toArray, List.set_cons_zero, List.set_cons_succ]
  refine till_only (i := 9) (by kernel_rfl) rfl rfl ?_
  refine wp_append (.tmp 49) (.tmp 50) _ rfl rfl rfl hrun6 ?_
  refine ⟨fun _ => hS6, ?_⟩
  simp only [Act.put, List.setIfInBounds_toArray, List.set_cons_zero, List.set_cons_succ]
  refine till_only (i := 10) (by kernel_rfl) rfl rfl ?_
  refine wp_run (v := .agg #[.int .i64 (i : Int), .int .i64 (k : Int), .slice (some ⟨g6, 0, none⟩) 64 c6]) (exec_build3 rfl rfl rfl rfl (build_waitR _ _ _ _ _ _)) ?_
  refine ⟨fun _ => hS6, ?_⟩
  simp only [Act.put, List.setIfInBounds_toArray, List.set_cons_zero, List.set_cons_succ]
  refine till_only (i := 11) (by kernel_rfl) rfl rfl ?_
  refine wp_run (v := .slice (some ⟨w6.heap.size, 0, none⟩) 1 1) (exec_buildSlice1 rfl rfl hbuild) ?_
  refine ⟨fun _ => by rw [World.cell?_of_block (Below.heap_alloc w6 _ _ (World.block_lt_of_cell? _ _ hS6))]; exact hS6, ?_⟩
  simp only [Act.put, List.setIfInBounds_toArray, List.set_cons_zero, List.set_cons_succ]
  refine till_only (i := 12) (by kernel_rfl) rfl rfl ?_
  refine wp_append (.tmp 46) (.tmp 53) _ rfl rfl rfl hrun8 ?_
  refine ⟨(fun e => by cases e), ?_⟩
  simp only [Act.put, List.setIfInBounds_toArray, List.set_cons_zero, List.set_cons_succ]
  refine till_tail 13 rfl (by kernel_rfl) ?_
  refine wpList_run (v := .pointer (some ⟨q, 0, none⟩)) rfl (exec_nil rfl rfl) ?_
  simp only [Act.put, List.setIfInBounds_toArray, List.set_cons_zero, List.set_cons_succ]
  refine wpList_run (v := .pointer (some ⟨q, 2, none⟩)) rfl (exec_field (off := 0) (d := 2) rfl rfl (by kernel_rfl)) ?_
  simp only [Act.put, List.setIfInBounds_toArray, List.set_cons_zero, List.set_cons_succ]
  refine wpList_store1 (g := q) (i := 2) (v := .slice A8 (rs.length + 1) c8) rfl 47 (.tmp 56) (.tmp 54) rfl HB8.out rfl rfl (by simp [refCells]) (by rfl) (by rfl) (by kernel_rfl) ?_
  intro hb9 ht9
  simp only [Act.put, List.setIfInBounds_toArray, List.set_cons_zero, List.set_cons_succ]
  have HB9 := Lib.hid hb9
  have HT9 := Lib.hid (HT8.out.trans ht9 (fun j _ e => .inl e))
  have HW9 := Lib.hid (HW8.out.turn ht9 (fun j hj e => by
    obtain ⟨cur, h1⟩ := HW8.out.own_blk hj
    exact (show Blk w8 j _ cur from h1).ne_ HB8.out (by decide) e))
  have HX9 := Lib.hid (secv_turn HX8.out ht9 (fun j cu h1 e => (show Blk w8 j _ cu from h1).ne_ HB8.out (by decide) e))
  have HS9 := Lib.hid ht9.size
  clear hS0 hS6 hrun6 hrun8 hbuild hb9 ht9
  generalize World.setCell w8 ⟨q, 2, none⟩ _ = w9 at *
  go_wp2_with fail
  refine NoPanic.normal ?_
  go_wp2_with fail
  go_ret
  exact ⟨_, _, rfl, HB9.out, HW9.out, ⟨HX9.out, fun b hb => by
    have hb : g6 = b := Option.some.inj hb
    subst hb
    have h1 := HG6.out
    have h2 := HS9.out
    exact ⟨h1.1, by omega⟩⟩, HT9.out, HN8.out⟩

end Go.Proofs.Yteedjfgandgbkaa
