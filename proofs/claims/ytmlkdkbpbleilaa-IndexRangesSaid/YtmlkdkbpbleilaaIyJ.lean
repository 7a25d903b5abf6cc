/-
  Index: a range: its iterator. No conditions.
-/
import Derived.Test.YtmlkdkbpbleilaaIyI
namespace Go.Proofs.Ytmlkdkbpbleilaa
open Go.RowKit Go.Shelf
open Ix
set_option linter.unusedVariables false
set_option linter.unusedSimpArgs false
attribute [local go_sem] Oper.semAt_some
set_option maxRecDepth 20000 in
set_option maxHeartbeats 4000000 in
theorem range_stops {n : Nat} {w : World} {xb fb tb ix : Nat} {H : Hp} {M N : Nat} {l : List Pr} {fr to : Key} {G : World → Nat → Prop} {n0 : Nat} (hG : GOK G n0) (hn0 : n0 ≤ w.heap.size)
    (hx : Blk w xb 24 #[.pointer (some ⟨ix, 0, none⟩)]) (hf : Blk w fb 9 #[strV fr]) (ht : Blk w tb 9 #[strV to]) (h : Idx w ix H M l N)
    (hg : ∀ k, G w k → ¬ own ix H k ∧ k ≠ xb ∧ k < w.heap.size) :
    SeqStopsK Fence.wide n Try.prog 34 #[.pointer (some ⟨xb, 0, none⟩), .pointer (some ⟨fb, 0, none⟩), .pointer (some ⟨tb, 0, none⟩)] (fun p : Pr => #[strV p.1, .int .i64 p.2]) (KpG G n0) (fun ys => ys = rngOf fr to l) (fun pre => pre <+: rngOf fr to l) (rngOf fr to l).length w := by
  intro l0 J Jx W hW hJ hJx hY h0
  have htw : Turn nowhere w W := Turn.of_below hW (Nat.le_refl _)
  have hn1 : n0 ≤ W.heap.size := Nat.le_trans hn0 hW.size
  have hg1 : ∀ k, G W k → ¬ own ix H k ∧ k ≠ xb ∧ k < W.heap.size := fun k hk => by
    obtain ⟨a, b, c⟩ := hg k (hG w W k (hW.mono hn0) hn0 hk)
    exact ⟨a, b, Nat.lt_of_lt_of_le c hW.size⟩
  have HX := Lib.hid (hx.turn htw fun e => e)
  have HF := Lib.hid (hf.turn htw fun e => e)
  have HT := Lib.hid (ht.turn htw fun e => e)
  have HI := Lib.hid (h.still htw)
  have HG := Lib.hid hG
  have HN1 := Lib.hid hn1
  have HG1 := Lib.hid hg1
  have HJT := Lib.hid (jt_of hJ)
  have HY := Lib.hid hY
  have HJ0 := Lib.hid h0
  clear hx hf ht h hG hn0 hg hJ hJx hY h0 hW htw hn1 hg1
  obtain ⟨top, ch, hb, hch, htop⟩ := HI.out.blk
  have HO := Lib.hid HI.out.ord
  have HB := Lib.hid hb
  clear hb hch
  refine callsIn_wide.2 ?_
  refine callsIn_wide.1 (?_ : CallsIn Fence.wide 5 _ _ _ _ _)
  refine callsIn_of_wp Try.func34 rfl trivial ?_ rfl
  simp only [Try.ntmps34, List.size_toArray, List.length_cons, List.length_nil, Nat.reduceAdd, Nat.reduceSub, Array.replicate_succ, Array.replicate_zero, List.push_toArray, List.append_toArray, List.nil_append, List.cons_append]
  have ht1 : Turn nowhere W (W.alloc (.cells #[.func (.yield l0) #[] #[]] 70)) := (Turn.refl nowhere W).alloc _
  have HYB := Lib.hid (show Blk (W.alloc (.cells #[.func (.yield l0) #[] #[]] 70)) W.heap.size 70 #[.func (.yield l0) #[] #[]] from Blk.new _ _ _)
  have hcx : (W.alloc (.cells #[.func (.yield l0) #[] #[]] 70)).cell? ⟨xb, 0, none⟩ = some (.pointer (some ⟨ix, 0, none⟩)) := (HX.out.turn ht1 fun e => e).cell 0
  have hct : (W.alloc (.cells #[.func (.yield l0) #[] #[]] 70)).cell? ⟨ix, 1, none⟩ = some top := (HB.out.turn ht1 fun e => e).cell 1
  have hcc : (W.alloc (.cells #[.func (.yield l0) #[] #[]] 70)).cell? ⟨ix, 3, none⟩ = some (.int .i64 (ch : Int)) := (HB.out.turn ht1 fun e => e).cell 3
  clear ht1
  rcases htop with ⟨rfl, hl⟩ | ⟨d, p, t, F, rfl, htr, hnd, hnb, hsr, hfl⟩
  · gi_wp2
    refine bodyPost_ret (results_none rfl _ _ _) rfl ?_
    refine ⟨⟨_, rfl⟩, .inl ?_⟩
    exact HJT.out _ _ _ HJ0.out ((Turn.refl nowhere W).alloc _)
  · have HTR := Lib.hid htr
    have HNB := Lib.hid hnb
    have HSR := Lib.hid hsr
    have HFL := Lib.hid hfl
    clear htr hnd hnb hsr hfl
    gi_wp2
    obtain ⟨W3, hw3⟩ : ∃ W3, W3 = ((W.alloc (.cells #[.func (.yield l0) #[] #[]] 70)).alloc (.cells #[.int .i64 (ch : Int)] 3)).drew := ⟨_, rfl⟩
    have ht3 : Turn nowhere W W3 := by rw [hw3]; exact (((Turn.refl nowhere W).alloc _).alloc _).drew
    have hyb : Blk W3 W.heap.size 70 #[.func (.yield l0) #[] #[]] := by
      rw [hw3]
      exact HYB.out.turn ((Turn.refl nowhere _).alloc _).drew fun e => e
    have hbb : Blk W3 (W.heap.size + 1) 3 #[.int .i64 (ch : Int)] := by
      rw [hw3]
      have := Blk.new (W.alloc (.cells #[.func (.yield l0) #[] #[]] 70)) 3 #[.int .i64 (ch : Int)]
      rw [World.size_alloc] at this
      exact this
    obtain ⟨y, hy⟩ : ∃ y, y = W.heap.size := ⟨_, rfl⟩
    obtain ⟨b, hb⟩ : ∃ b, b = W.heap.size + 1 := ⟨_, rfl⟩
    rw [← hy] at hyb
    rw [← hb] at hbb
    have hg3 : ∀ k, G W3 k → ¬ own ix H k ∧ k ≠ xb ∧ k < W.heap.size := fun k hk => HG1.out k (HG.out W W3 k (ht3.below HN1.out fun _ _ e => e) HN1.out hk)
    have hn3 : n0 ≤ W3.heap.size := Nat.le_trans HN1.out ht3.size
    have hS0 : (fun V => Blk V xb 24 #[.pointer (some ⟨ix, 0, none⟩)] ∧ Blk V ix 58 #[.int .i64 (M : Int), .pointer (some ⟨p, 0, none⟩), .int .i64 (l.length : Int), .int .i64 (ch : Int)] ∧ Blk V fb 9 #[strV fr] ∧ Blk V tb 9 #[strV to]) W3 := ⟨HX.out.turn ht3 fun e => e, HB.out.turn ht3 fun e => e, HF.out.turn ht3 fun e => e, HT.out.turn ht3 fun e => e⟩
    have hE : ∀ pre V, (J pre V ∧ KpG G n0 W3 V) → Env y xb b l0 ix V := fun pre V hv =>
      ⟨hyb.kp hv.2 (fun e => by have := (hg3 _ e).2.2; omega), hS0.1.kp hv.2 (fun e => (hg3 _ e).2.1 rfl), ⟨_, _, _, ch, hS0.2.1.kp hv.2 (fun e => (hg3 _ e).1 (.inl rfl)), hbb.kp hv.2 (fun e => by have := (hg3 _ e).2.2; omega)⟩⟩
    have hT := tell_walk (Jx := Jx) (N := (rngOf fr to l).length) (J := fun pre V => J pre V ∧ KpG G n0 W3 V)
      (fun pre A B hA hAB => ⟨HJT.out _ _ _ hA.1 hAB, hA.2.trans (KpG.still HG.out (Nat.le_trans hn3 hA.2.1.size) hAB)⟩) hE
      (fun pre q V hV hlen => YieldAt.wide (HY.out pre q V hV.1 hlen) fun e V' h => h.elim (fun ⟨h1, h2, h3⟩ => .inl ⟨h1, h2, hV.2.trans h3⟩) .inr)
    have hW := walk_tree (fr := fr) (to := to) hT (fun pre A B hA hAB => ⟨HJT.out _ _ _ hA.1 hAB, hA.2.trans (KpG.still HG.out (Nat.le_trans hn3 hA.2.1.size) hAB)⟩)
      (fun pre V hV => (HI.out.hin.still ht3).kp hV.2 fun k hk e => (hg3 k e).1 (.inr hk)) HO.out.2 HTR.out HNB.out HSR.out
    rw [HFL.out] at hW
    have HCW := Lib.hid (hW [] W3 ⟨HJT.out _ _ _ HJ0.out ht3, KpG.still HG.out hn3 (Turn.refl _ _)⟩ room_rng)
    clear hT hW hE hg3 hn3 hyb hbb HYB hcx hct hcc ht3
    refine wpIn_region_till (fun V => Blk V xb 24 #[.pointer (some ⟨ix, 0, none⟩)] ∧ Blk V ix 58 #[.int .i64 (M : Int), .pointer (some ⟨p, 0, none⟩), .int .i64 (l.length : Int), .int .i64 (ch : Int)] ∧ Blk V fb 9 #[strV fr] ∧ Blk V tb 9 #[strV to]) 7 (by kernel_rfl) ?_
    rw [← hw3, ← hb, ← hy]
    clear hw3 hb hy
    refine tillI_takeL [1, 2, 3, 7] (i := 0) (v := .pointer (some ⟨ix, 0, none⟩)) rfl rfl (by kernel_rfl) (by kernel_rfl) (fun _ _ _ h => h) (.inl ⟨by rfl, fun W hW => exec_load1 rfl rfl (by kernel_rfl) (hW.1.cell 0)⟩) (fun w => rfl) hS0 ?_
    simp only [Act.put, List.setIfInBounds_toArray, List.set_cons_zero, List.set_cons_succ]
    refine tillI_pure (i := 1) (v := .pointer (some ⟨ix, 0, none⟩)) rfl rfl (by kernel_rfl) (by kernel_rfl) (fun _ _ _ h => h) (.inl ⟨by rfl, fun W hW => exec_nil rfl rfl⟩) (fun w => rfl) hS0 ?_
    simp only [Act.put, List.setIfInBounds_toArray, List.set_cons_zero, List.set_cons_succ]
    refine tillI_pure (i := 2) (v := .pointer (some ⟨ix, 1, none⟩)) rfl rfl (by kernel_rfl) (by kernel_rfl) (fun _ _ _ h => h) (.inl ⟨by rfl, fun W hW => exec_field (off := 0) (d := 1) rfl rfl (by kernel_rfl)⟩) (fun w => rfl) hS0 ?_
    simp only [Act.put, List.setIfInBounds_toArray, List.set_cons_zero, List.set_cons_succ]
    refine tillI_take (i := 3) (v := .pointer (some ⟨p, 0, none⟩)) rfl rfl (by kernel_rfl) (by kernel_rfl) (fun _ _ _ h => h) (.inl ⟨by rfl, fun W hW => exec_load1 rfl rfl (by kernel_rfl) (hW.2.1.cell 1)⟩) (fun w => rfl) hS0 ?_
    simp only [Act.put, List.setIfInBounds_toArray, List.set_cons_zero, List.set_cons_succ]
    refine tillI_take (i := 4) (v := strV fr) rfl rfl (by kernel_rfl) (by kernel_rfl) (fun _ _ _ h => h) (.inl ⟨by rfl, fun W hW => exec_load1 rfl rfl (by kernel_rfl) (hW.2.2.1.cell 0)⟩) (fun w => rfl) hS0 ?_
    simp only [Act.put, List.setIfInBounds_toArray, List.set_cons_zero, List.set_cons_succ]
    refine tillI_take (i := 5) (v := strV to) rfl rfl (by kernel_rfl) (by kernel_rfl) (fun _ _ _ h => h) (.inl ⟨by rfl, fun W hW => exec_load1 rfl rfl (by kernel_rfl) (hW.2.2.2.cell 0)⟩) (fun w => rfl) hS0 ?_
    simp only [Act.put, List.setIfInBounds_toArray, List.set_cons_zero, List.set_cons_succ]
    refine tillI_pure (i := 6) (v := .func (.func 36) #[] #[.pointer (some ⟨y, 0, none⟩), .pointer (some ⟨xb, 0, none⟩), .pointer (some ⟨b, 0, none⟩)]) rfl rfl (by kernel_rfl) (by kernel_rfl) (fun _ _ _ h => h) (.inl ⟨by rfl, fun W hW => by simp [go_sem]⟩) (fun w => rfl) hS0 ?_
    simp only [Act.put, List.setIfInBounds_toArray, List.set_cons_zero, List.set_cons_succ]
    refine tillI_step (i := 7) (by kernel_rfl) rfl rfl ?_
    intro K1 HK1
    gi_wp2
    refine ⟨trivial, (callsIn_wide.2 HCW.out).mono ?_⟩
    rintro e w2 he
    obtain ⟨⟨v, rfl⟩, hend⟩ := wend_rng he
    refine HK1.out _ _ ⟨fun e => (by simp at e), ?_⟩
    clear HK1
    refine tillI_of_alw (S' := fun _ => True) _ _ _ _ (by kernel_rfl) ?_
    refine alwI_done rfl ?_
    refine NoPanic.normal ?_
    try simp only [Act.put, List.setIfInBounds_toArray, List.set_cons_zero, List.set_cons_succ]
    gi_wp2
    go_end0
    exact ⟨⟨_, rfl⟩, hend.elim (fun ⟨ys, h1, h2⟩ => .inl ⟨ys, h1, h2.1⟩) .inr⟩
end Go.Proofs.Ytmlkdkbpbleilaa
