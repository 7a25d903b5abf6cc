/-
  Texts in one file: MsFh MsFi MsGa MsGb LaysB MsGc. Conditions: the tables and the errors read as the program's text lays them.
-/
import Derived.Test.YtfnillibngijaaaGreatDoorJB21
import Derived.Lib.ConvBytes
import Derived.Shelf.Small.Bits
import Derived.Test.YtfnillibngijaaaGreatDoorProg
import Derived.Lib.BitFns
namespace Go.Proofs.YtfnillibngijaaaGreatDoor
open Go.RowKit
open Fdd
set_option linter.unusedVariables false
set_option linter.unusedSimpArgs false
theorem errV_zero {s : Sents} {v : Value} {n : Int} (h : ErrV s v n) (h0 : n = 0) : v = .nilIface := by
  cases h <;> first | rfl | (exact absurd h0 (by decide))
theorem errV_some {s : Sents} {v : Value} {n : Int} (h : ErrV s v n) (h0 : n ≠ 0) : ∃ t x, v = .iface t x := by
  cases h <;> first | (exact absurd rfl h0) | exact ⟨_, _, rfl⟩
theorem size_msg : (Tryz.prog.info? 49).map (·.size) = some 2 := by kernel_rfl
theorem own_lt8 {w : World} {B : Nat} {e : TypeId} {v : Value} {bs : List UInt8} (h : Own w B e v bs) {k : Nat} (hk : v.ownBlock = some k) : k < w.heap.size := (World.ownsRow.lt h k hk).2
theorem own_turn8 {w w' : World} {B : Nat} {e : TypeId} {v : Value} {bs : List UInt8} {F : Nat → Prop} (h : Own w B e v bs) (ht : Turn F w w') (hF : ∀ k, v.ownBlock = some k → ¬ F k) : Own w' B e v bs := by
  refine ⟨h.1, ?_⟩
  rcases h.2 with h0 | ⟨g, cap, cur, rfl, hb1, hgg, rest⟩
  · exact .inl h0
  · exact .inr ⟨g, cap, cur, rfl, hb1, (ht.block g (Array.getElem?_eq_some_iff.1 hgg).1 (hF g rfl)).trans hgg, rest⟩
def codeE {α : Type} : Except Int α → Int
  | .ok _ => 0
  | .error k => k
def bytesE : Except Int (List UInt8) → List UInt8
  | .ok b => b
  | .error _ => []
/-- what is still to be written, when so many fields are -/
theorem putFs_at {d : Nat} {fs : List Fld} {b r0 : List UInt8} {j : Nat} {f : Fld} {X : Option (List UInt8)} {m : Fm} (hf : fs[j]? = some f) (hm : mform d f.1 = some m) (h : putFs d b (fs.drop j) = X) : (m.check (say d f) = 0 → putFs d (b ++ m.put (say d f)) (fs.drop (j + 1)) = X) ∧ (m.check (say d f) ≠ 0 → X = none) := by
  obtain ⟨hj, hfj⟩ := List.getElem?_eq_some_iff.1 hf
  have hd : fs.drop j = f :: fs.drop (j + 1) := by rw [← hfj]; exact List.drop_eq_getElem_cons hj
  rw [hd] at h
  unfold putFs at h
  rw [hm] at h
  simp only [] at h
  refine ⟨fun h0 => ?_, fun h0 => ?_⟩
  · rw [if_pos h0] at h
    exact h
  · rw [if_neg h0] at h
    exact h.symm
theorem check41 {d : Nat} {no : Int} {m : Fm} {t : List UInt8} (hd : 1 ≤ d ∧ d ≤ 3) (hm : mform d no = some m) (h : m.check t ≠ 0) : m.check t = 41 := by
  obtain ⟨k1, s1, rfl, hk1, hs1, _⟩ := form_nf hm
  unfold Fm.check at h ⊢
  rw [if_pos (may_nf hk1 hd hs1)] at h ⊢
  split
  · rename_i hr
    rw [if_pos hr] at h
    exact absurd rfl h
  · rfl
/-- what encode answers -/
def EncP (s : Sents) (r : Except Int (List UInt8)) (w : World) (e : Ending) (w' : World) : Prop := ∃ A n c v, e = .returned (.tuple #[.slice A n c, v]) ∧ ErrV s v (codeE r) ∧ Own w' w.heap.size 5 (.slice A n c) (bytesE r) ∧ Turn nowhere w w'
theorem encP_err {s : Sents} {r : Except Int (List UInt8)} {k : Int} {w w' : World} {v : Value} (hr : r = .error k) (hv : ErrV s v k) (ht : Turn nowhere w w') : EncP s r w (.returned (.tuple #[.slice none 0 0, v])) w' := by
  subst hr
  exact ⟨none, 0, 0, v, rfl, hv, World.ownsRow_nil w' _ _ _, ht⟩
structure Env (s : Sents) (W : World) : Prop where
  sen : Sen s W
  tab : Tab W
  rows : RowsT W
  pow : PowT W
  zer : ZerT W
theorem Env.turn {s : Sents} {W W' : World} (h : Env s W) (ht : Turn nowhere W W') : Env s W' := ⟨h.sen.turn ht, h.tab.turn ht, h.rows.turn ht, h.pow.turn ht, h.zer.turn ht⟩
set_option maxRecDepth 20000 in
set_option maxHeartbeats 1000000 in
theorem encode_walk {s : Sents} {w : World} {dd ty : Int} {A : Option Addr} {n c : Nat} {fs : List Fld} (he : Env s w) (hf : Fl w A n fs) :
    Calls Tryz.prog 31 #[.int .i64 dd, msgV ty A n c] w (EncP s (mencode dd ty fs) w) := by
  have hu := (Turn.refl nowhere w).alloc (.cells #[.int .i64 ty, .slice A n c] 49)
  have hb := Blk.new w 49 #[.int .i64 ty, .slice A n c]
  obtain ⟨bm, hbm⟩ : ∃ bm, bm = w.heap.size := ⟨_, rfl⟩
  obtain ⟨w1, hw1⟩ : ∃ w1, w1 = w.alloc (.cells #[.int .i64 ty, .slice A n c] 49) := ⟨_, rfl⟩
  rw [← hw1] at hu hb
  rw [← hbm] at hb
  have HE := Lib.hid (he.turn hu)
  have HF := Lib.hid (hf.still hu)
  have HU := Lib.hid hu
  have HB := Lib.hid hb
  have HW := Lib.hid hw1
  have HBM := Lib.hid hbm
  have HNL : Hid (fs.length = n) := Lib.hid hf.1
  have HNM : Hid (n ≤ 140737488355328) := Lib.hid hf.2.1
  have y9 : (n : Int) ≤ 140737488355328 := by
    have := HNM.out
    omega
  clear he hf hu hb hw1 hbm
  unfold msgV
  go_enter Tryz.func31, Tryz.ntmps31
  go_upto_region 1 with fail
  have e1 := HW.out
  have e2 := HBM.out
  rw [← e1, ← e2]
  clear e1 e2 HW HBM
  refine wp_region_lit ?_
  refine wpList_run (v := .int .i64 dd) rfl (exec_move rfl rfl) ?_
  simp only [Act.put, List.setIfInBounds_toArray, List.set_cons_zero, List.set_cons_succ]

  by_cases hd : 1 ≤ dd ∧ dd ≤ 3
  · obtain ⟨d, hdn⟩ : ∃ d : Nat, dd = (d : Int) := ⟨dd.toNat, by omega⟩
    subst hdn
    have hd2 : 1 ≤ d ∧ d ≤ 3 := by omega
    have HD := Lib.hid hd2
    have HR := Lib.hid (show mencode (d : Int) ty fs = if mcheck ty fs = 0 then match putFs d (mhead d ty fs) fs with | none => .error 41 | some b => .ok b else .error (mcheck ty fs) from by
      unfold mencode
      rw [if_pos hd, Int.toNat_natCast]
      rfl)
    clear hd hd2
    refine wpList_op rfl fun K9 HK9 => ?_
    go_wp2_with fail
    refine (tongueOf_ok (s := s) HD.out HE.out.tab).mono ?_
    rintro e w2 ⟨rfl, ht2⟩
    refine HK9.out _ _ ?_
    clear HK9
    try simp only [Act.put, List.setIfInBounds_toArray, List.set_cons_zero, List.set_cons_succ]
    have HU2 := Lib.hid ht2
    have HB2 := Lib.hid (HB.out.turn ht2 (fun e => e))
    clear ht2 HB
    refine wpList_run (v := .tuple #[tongV d, .nilIface]) rfl (exec_move rfl rfl) ?_
    simp only [Act.put, List.setIfInBounds_toArray, List.set_cons_zero, List.set_cons_succ]
    refine wpList_run (v := tongV d) rfl (ix_extract rfl rfl rfl) ?_
    simp only [Act.put, List.setIfInBounds_toArray, List.set_cons_zero, List.set_cons_succ]
    refine wpList_run (v := .nilIface) rfl (ix_extract rfl rfl rfl) ?_
    simp only [Act.put, List.setIfInBounds_toArray, List.set_cons_zero, List.set_cons_succ]
    refine wpList_run (v := .pointer (some ⟨w2.heap.size, 0, none⟩)) (w' := w2.alloc (.cells #[.int .i64 0, strV [], strV []] 98)) rfl (gx_alloc rfl (zero_tongue _)) ?_
    simp only [Act.put, List.setIfInBounds_toArray, List.set_cons_zero, List.set_cons_succ]
    have hb8 := Blk.new w2 98 #[.int .i64 0, strV [], strV []]
    have hu8 := HU2.out.alloc (.cells #[.int .i64 0, strV [], strV []] 98)
    have hbm8 := HB2.out.alloc (.cells #[.int .i64 0, strV [], strV []] 98)
    obtain ⟨bt, hbt⟩ : ∃ bt, bt = w2.heap.size := ⟨_, rfl⟩
    rw [← hbt] at hb8 ⊢
    have HG8 := Lib.hid (show w1.heap.size ≤ bt from by rw [hbt]; exact HU2.out.size)
    have HN8 := Lib.hid (show bm ≠ bt from by have := HB2.out.lt; omega)
    clear hbt
    generalize w2.alloc (.cells #[.int .i64 0, strV [], strV []] 98) = w5 at *
    refine wpList_store_row rfl 98 (.tmp 6) (.tmp 17) rfl (tongA d) hb8 rfl rfl rfl (by rw [size_tongue]; rfl) (tongA_one d) ?_
    intro w6 hb6 hu6
    have HBT := Lib.hid hb6
    have HBM := Lib.hid (hbm8.turn hu6 (fun e => HN8.out e))
    have HU6 := Lib.hid (hu8.trans hu6 (fun k hk e => by
      have := HG8.out
      have e : k = bt := e
      omega))
    clear hb8 hu8 hbm8 hb6 hu6 HB2 HU2
    simp only [Act.put, List.setIfInBounds_toArray, List.set_cons_zero, List.set_cons_succ]

    have HCV := Lib.hid (checkV_ok s ty fs)
    go_upto_region 4 with fail
    refine wp_region_lit ?_
    refine wpList_run (v := msgV ty A n c) rfl (gx_loads rfl rfl (blk_range HBM.out) Tryz.underlying49 rfl (by rw [size_msg]; rfl)) ?_
    simp only [Act.put, List.setIfInBounds_toArray, List.set_cons_zero, List.set_cons_succ]
    refine wpList_op rfl fun K9 HK9 => ?_
    go_wp2_with fail
    refine (check_walk2 (s := s) (HE.out.tab.turn HU6.out) (HE.out.sen.turn HU6.out) (HE.out.rows.turn HU6.out) (HF.out.still HU6.out)).mono ?_
    rintro e w7 ⟨rfl, ht7⟩
    refine HK9.out _ _ ?_
    clear HK9
    try simp only [Act.put, List.setIfInBounds_toArray, List.set_cons_zero, List.set_cons_succ]

    have HU7 := Lib.hid (HU6.out.trans ht7 (fun _ _ e => e))
    have HBT7 := Lib.hid (HBT.out.turn ht7 (fun e => e))
    have HBM7 := Lib.hid (HBM.out.turn ht7 (fun e => e))
    clear ht7 HU6 HBT HBM
    by_cases hck : mcheck ty fs = 0
    · have hv := errV_zero HCV.out hck
      rw [hv]
      obtain ⟨hty, _, hgood⟩ := mcheck_zero.1 hck
      have HTY := Lib.hid hty
      have HGD := Lib.hid hgood
      have HR2 := Lib.hid (show mencode (d : Int) ty fs = match putFs d (mhead d ty fs) fs with | none => .error 41 | some b => .ok b from by rw [HR.out, if_pos hck])
      have HML := Lib.hid (show n ≤ 24 from by rw [← HNL.out]; exact (mcheck_zero.1 hck).2.1)
      clear hv hty hgood hck HR HCV
      go_upto_region 7 with fail
      refine wp_region_lit ?_
      refine wpList_run (v := tongV d) rfl (gx_loads rfl rfl (blk_range HBT7.out) Tryz.underlying98 rfl (by rw [size_tongue]; rfl)) ?_
      simp only [Act.put, List.setIfInBounds_toArray, List.set_cons_zero, List.set_cons_succ]
      refine wpList_run (v := msgV ty A n c) rfl (gx_loads rfl rfl (blk_range HBM7.out) Tryz.underlying49 rfl (by rw [size_msg]; rfl)) ?_
      simp only [Act.put, List.setIfInBounds_toArray, List.set_cons_zero, List.set_cons_succ]
      refine wpList_op rfl fun K9 HK9 => ?_
      go_wp2_with fail
      refine (putHead_walk (s := s) HD.out HTY.out (good_nos HGD.out).2 (HE.out.sen.turn HU7.out) (HE.out.rows.turn HU7.out) (HE.out.pow.turn HU7.out) (HE.out.zer.turn HU7.out) (HF.out.still HU7.out)).mono ?_
      rintro e w8 ⟨A8, n8, c8, rfl, ho8, ht8⟩
      refine HK9.out _ _ ?_
      clear HK9
      try simp only [Act.put, List.setIfInBounds_toArray, List.set_cons_zero, List.set_cons_succ]
      refine wpList_run (v := .tuple #[.slice A8 n8 c8, .nilIface]) rfl (exec_move rfl rfl) ?_
      simp only [Act.put, List.setIfInBounds_toArray, List.set_cons_zero, List.set_cons_succ]
      refine wpList_run (v := .slice A8 n8 c8) rfl (ix_extract rfl rfl rfl) ?_
      simp only [Act.put, List.setIfInBounds_toArray, List.set_cons_zero, List.set_cons_succ]
      refine wpList_run (v := .nilIface) rfl (ix_extract rfl rfl rfl) ?_
      simp only [Act.put, List.setIfInBounds_toArray, List.set_cons_zero, List.set_cons_succ]
      refine wpList_run (v := .slice A8 n8 c8) rfl (gx_assign rfl rfl) ?_
      simp only [Act.put, List.setIfInBounds_toArray, List.set_cons_zero, List.set_cons_succ]
      refine wpList_run (v := .nilIface) rfl (gx_assign rfl rfl) ?_
      simp only [Act.put, List.setIfInBounds_toArray, List.set_cons_zero, List.set_cons_succ]

      have HU8 := Lib.hid (HU7.out.trans ht8 (fun _ _ e => e))
      have HBT8 := Lib.hid (HBT7.out.turn ht8 (fun e => e))
      have HO8 := Lib.hid (show Own w8 w1.heap.size 5 (.slice A8 n8 c8) (mhead d ty fs) from own_base ho8 HU7.out.size)
      have HL8 := Lib.hid (show (mhead d ty fs).length ≤ 46 from by
        have h1 := hpart_len (fs := fs) HD.out HTY.out 2
        have h2 : hpart d ty fs 2 = mhead d ty fs := by
          unfold hpart
          rw [List.take_of_length_le (halves_len fs)]
          rfl
        rw [h2] at h1
        exact h1)
      have c1 : w8.cell? ⟨bm, 1, none⟩ = some (.slice A n c) := (HBM7.out.turn ht8 (fun e => e)).cell 1
      clear ho8 ht8 HU7 HBT7 HBM7
      go_upto_region 10 with fail
      go_wp2_with fail
      clear c1
      go_loopg [9, 39] n (fun gk bv jv wr => ∃ (j : Nat) (A' : Option Addr) (n' c' : Nat) (b : List UInt8), j + gk = n ∧ jv = .int .i64 (j : Int) ∧ bv = .slice A' n' c' ∧ Own wr w1.heap.size 5 (.slice A' n' c') b ∧ b.length ≤ 46 + 130 * j ∧ putFs d b (fs.drop j) = putFs d (mhead d ty fs) fs ∧ Blk wr bt 98 (tongA d) ∧ Turn nowhere w1 wr)
      case atStart => exact ⟨0, A8, n8, c8, _, by omega, rfl, rfl, HO8.out, by have := HL8.out; omega, rfl, HBT8.out, HU8.out⟩
      obtain ⟨j, Aj, nj, cj, bj, hjl, rfl, rfl, hoj, hlj, hpj, hbj, htr⟩ := hrel
      have HJL := Lib.hid hjl
      have HOJ := Lib.hid hoj
      have HLJ := Lib.hid hlj
      have HPJ := Lib.hid hpj
      have HBJ := Lib.hid hbj
      have HTR := Lib.hid htr
      clear hjl hoj hlj hpj hbj htr
      by_cases hlt : j < n
      · have y1 : (j : Int) < (n : Int) := by omega
        have HLT := Lib.hid hlt
        obtain ⟨f, hff⟩ : ∃ f, fs[j]? = some f := ⟨_, List.getElem?_eq_getElem (show j < fs.length from by rw [HNL.out]; exact hlt)⟩
        obtain ⟨bF, oF, rfl, hrow⟩ := HF.out.2.2 (by omega)
        have HRR := Lib.hid (show wr.rangeAt bF (oF + j * 2) (fldA f).toList from fun i v hv => (HTR.out.cell (World.block_lt_of_cell? _ _ (hrow j f hff i v hv)) (fun e => e)).trans (hrow j f hff i v hv))
        obtain ⟨m1, hm1, hc1⟩ := HGD.out.2 f (List.mem_of_getElem? hff)
        obtain ⟨m, hm⟩ := Option.isSome_iff_exists.1 (form_of (d := 1) (d' := d) (no := f.1) (by rw [hm1]; rfl))
        have HM := Lib.hid hm
        have HAT := Lib.hid (putFs_at (r0 := []) hff hm HPJ.out)
        clear hlt hff hrow hm1 hc1 hm
        go_upto_region 12 with fail
        refine wp_region_lit ?_
        refine wpList_run (v := .pointer (some ⟨bF, oF + j * 2, none⟩)) rfl (gx_iaddr (i := j) (sz := 2) rfl rfl rfl Tryz.underlying47 size_field HLT.out (by omega)) ?_
        simp only [Act.put, List.setIfInBounds_toArray, List.set_cons_zero, List.set_cons_succ]
        refine wpList_run (v := .agg (fldA f)) rfl (gx_loads rfl rfl HRR.out Tryz.underlying53 rfl (by rw [size_field]; rfl)) ?_
        simp only [Act.put, List.setIfInBounds_toArray, List.set_cons_zero, List.set_cons_succ]
        refine wpList_run (v := .pointer (some ⟨wr.heap.size, 0, none⟩)) (w' := wr.alloc (.cells #[.int .i64 0, strV []] 53)) rfl (gx_alloc rfl (zero_field _)) ?_
        simp only [Act.put, List.setIfInBounds_toArray, List.set_cons_zero, List.set_cons_succ]
        have hb7 := Blk.new wr 53 #[.int .i64 0, strV []]
        have hu7 := HTR.out.alloc (.cells #[.int .i64 0, strV []] 53)
        obtain ⟨g7, hg7⟩ : ∃ g7, g7 = wr.heap.size := ⟨_, rfl⟩
        rw [← hg7] at hb7 ⊢
        have HG7 := Lib.hid (show w1.heap.size ≤ g7 from by rw [hg7]; exact HTR.out.size)
        have HRG := Lib.hid (show wr.heap.size ≤ g7 from by rw [hg7]; exact Nat.le_refl _)
        have hr7 := (Turn.refl nowhere wr).alloc (.cells #[.int .i64 0, strV []] 53)
        clear hg7
        generalize wr.alloc (.cells #[.int .i64 0, strV []] 53) = w2 at *
        refine wpList_store_row rfl 53 (.tmp 11) (.tmp 42) rfl (fldA f) hb7 rfl rfl rfl (by rw [size_field]; rfl) (fldA_one f) ?_
        intro w3 hb3 hu3
        have HB7 := Lib.hid hb3
        have HU3 := Lib.hid (hu7.trans hu3 (fun k hk e => by
          have := HG7.out
          have e : k = g7 := e
          omega))
        have HR3 := Lib.hid (hr7.trans hu3 (fun k hk e => by
          have := HRG.out
          have e : k = g7 := e
          omega))
        clear hb7 hu7 hb3 hu3 HRR hr7 HRG
        simp only [Act.put, List.setIfInBounds_toArray, List.set_cons_zero, List.set_cons_succ]

        have d0 : w3.cell? ⟨g7, 0, none⟩ = some (.int .i64 f.1) := HB7.out.cell 0
        have HBT3 := Lib.hid (HBJ.out.turn HR3.out (fun e => e))
        go_upto_region 13 with fail
        refine wp_region_lit ?_
        refine wpList_run (v := tongV d) rfl (gx_loads rfl rfl (blk_range HBT3.out) Tryz.underlying98 rfl (by rw [size_tongue]; rfl)) ?_
        simp only [Act.put, List.setIfInBounds_toArray, List.set_cons_zero, List.set_cons_succ]
        refine wpList_run (v := .pointer (some ⟨g7, 0, none⟩)) rfl (exec_field (off := 0) (d := 0) rfl rfl (by kernel_rfl)) ?_
        simp only [Act.put, List.setIfInBounds_toArray, List.set_cons_zero, List.set_cons_succ]
        refine wpList_run (v := .int .i64 f.1) rfl (exec_load1 rfl rfl (by kernel_rfl) d0) ?_
        simp only [Act.put, List.setIfInBounds_toArray, List.set_cons_zero, List.set_cons_succ]
        refine wpList_op rfl fun K9 HK9 => ?_
        go_wp2_with fail
        refine (form_walk (s := s) (d := d) (HE.out.tab.turn HU3.out) (HE.out.sen.turn HU3.out)).mono ?_
        rintro e w4 ⟨rfl, ht4⟩
        refine HK9.out _ _ ?_
        clear HK9
        try simp only [Act.put, List.setIfInBounds_toArray, List.set_cons_zero, List.set_cons_succ]

        have HU4 := Lib.hid (HU3.out.trans ht4 (fun _ _ e => e))
        have HB4 := Lib.hid (HB7.out.turn ht4 (fun e => e))
        have HBT4 := Lib.hid (HBT3.out.turn ht4 (fun e => e))
        have HO4 := Lib.hid (own_still (own_still HOJ.out HR3.out) ht4)
        clear ht4 HU3 HB7 d0 HBT3 HR3
        have hfr : formR s d f.1 = .tuple #[fmV m, .nilIface] := by unfold formR; rw [HM.out]
        rw [hfr]
        clear hfr
        refine wpList_run (v := .tuple #[fmV m, .nilIface]) rfl (exec_move rfl rfl) ?_
        simp only [Act.put, List.setIfInBounds_toArray, List.set_cons_zero, List.set_cons_succ]
        refine wpList_run (v := fmV m) rfl (ix_extract rfl rfl rfl) ?_
        simp only [Act.put, List.setIfInBounds_toArray, List.set_cons_zero, List.set_cons_succ]
        refine wpList_run (v := .nilIface) rfl (ix_extract rfl rfl rfl) ?_
        simp only [Act.put, List.setIfInBounds_toArray, List.set_cons_zero, List.set_cons_succ]
        refine wpList_run (v := .pointer (some ⟨w4.heap.size, 0, none⟩)) (w' := w4.alloc (.cells #[.int .i64 0, .int .i64 0, .int .i64 0] 104)) rfl (gx_alloc rfl (mzero_form _)) ?_
        simp only [Act.put, List.setIfInBounds_toArray, List.set_cons_zero, List.set_cons_succ]
        have hb8 := Blk.new w4 104 #[.int .i64 0, .int .i64 0, .int .i64 0]
        have hu8 := HU4.out.alloc (.cells #[.int .i64 0, .int .i64 0, .int .i64 0] 104)
        have hb78 := HB4.out.alloc (.cells #[.int .i64 0, .int .i64 0, .int .i64 0] 104)
        have hbt8 := HBT4.out.alloc (.cells #[.int .i64 0, .int .i64 0, .int .i64 0] 104)
        have ho8 := own_still HO4.out ((Turn.refl nowhere w4).alloc (.cells #[.int .i64 0, .int .i64 0, .int .i64 0] 104))
        obtain ⟨g8, hg8⟩ : ∃ g8, g8 = w4.heap.size := ⟨_, rfl⟩
        rw [← hg8] at hb8 ⊢
        have HG8 := Lib.hid (show w1.heap.size ≤ g8 from by rw [hg8]; exact HU4.out.size)
        have HN8 := Lib.hid (show g7 ≠ g8 from by have := HB4.out.lt; omega)
        have HNT := Lib.hid (show bt ≠ g8 from by have := HBT4.out.lt; omega)
        have HNO := Lib.hid (show ∀ k, (Value.slice Aj nj cj).ownBlock = some k → k ≠ g8 from fun k hk => by have := own_lt8 HO4.out hk; omega)
        clear hg8
        generalize w4.alloc (.cells #[.int .i64 0, .int .i64 0, .int .i64 0] 104) = w5 at *
        refine wpList_store_row rfl 104 (.tmp 12) (.tmp 48) rfl #[.int .i64 m.kind, .int .i64 m.size, .int .i64 m.code] hb8 rfl rfl rfl (by rw [size_form]; rfl) (fm3_one _ _ _) ?_
        intro w6 hb6 hu6
        have HB8 := Lib.hid hb6
        have HB7 := Lib.hid (hb78.turn hu6 (fun e => HN8.out e))
        have HBT6 := Lib.hid (hbt8.turn hu6 (fun e => HNT.out e))
        have HO6 := Lib.hid (own_turn8 ho8 hu6 (fun k hk e => HNO.out k hk e))
        have HU6 := Lib.hid (hu8.trans hu6 (fun k hk e => by
          have := HG8.out
          have e : k = g8 := e
          omega))
        clear hb8 hu8 hb78 hb6 hu6 HB4 HU4 HBT4 hbt8 ho8 HO4 HNO
        simp only [Act.put, List.setIfInBounds_toArray, List.set_cons_zero, List.set_cons_succ]

        go_upto_region 16 with fail
        have hS0 : Blk w6.drew g7 53 (fldA f) ∧ Blk w6.drew g8 104 #[.int .i64 m.kind, .int .i64 m.size, .int .i64 m.code] ∧ Blk w6.drew bt 98 (tongA d) := ⟨HB7.out, HB8.out, HBT6.out⟩
        have HU6d : Hid (Turn nowhere w1 w6.drew) := Lib.hid HU6.out.drew
        have HO6d : Hid (Own w6.drew w1.heap.size 5 (.slice Aj nj cj) bj) := Lib.hid HO6.out
        clear HB7 HB8 HBT6 HU6 HO6
        refine wp_region_alw (fun W => Blk W g7 53 (fldA f) ∧ Blk W g8 104 #[.int .i64 m.kind, .int .i64 m.size, .int .i64 m.code] ∧ Blk W bt 98 (tongA d)) (by kernel_rfl) ?_
        generalize w6.drew = w7 at *
        refine alw_take (i := 0) (v := .slice Aj nj cj) rfl (by kernel_rfl) (by kernel_rfl) (fun _ _ _ h => h) (.inl ⟨by rfl, fun W hW => exec_move rfl rfl⟩) hS0 ?_
        simp only [Act.put, List.setIfInBounds_toArray, List.set_cons_zero, List.set_cons_succ]
        refine alw_take (i := 1) (v := .pointer (some ⟨g7, 0, none⟩)) rfl (by kernel_rfl) (by kernel_rfl) (fun _ _ _ h => h) (.inl ⟨by rfl, fun W hW => exec_field (off := 0) (d := 0) rfl rfl (by kernel_rfl)⟩) hS0 ?_
        simp only [Act.put, List.setIfInBounds_toArray, List.set_cons_zero, List.set_cons_succ]
        refine alw_take (i := 2) (v := .int .i64 f.1) rfl (by kernel_rfl) (by kernel_rfl) (fun _ _ _ h => h) (.inl ⟨by rfl, fun W hW => exec_load1 rfl rfl (by kernel_rfl) (hW.1.cell 0)⟩) hS0 ?_
        simp only [Act.put, List.setIfInBounds_toArray, List.set_cons_zero, List.set_cons_succ]
        refine alw_take (i := 3) (v := fmV m) rfl (by kernel_rfl) (by kernel_rfl) (fun _ _ _ h => h) (.inl ⟨by rfl, fun W hW => gx_loads rfl rfl (blk_range hW.2.1) Tryz.underlying104 rfl (by rw [size_form]; rfl)⟩) hS0 ?_
        simp only [Act.put, List.setIfInBounds_toArray, List.set_cons_zero, List.set_cons_succ]
        refine alw_take (i := 4) (v := .pointer (some ⟨g7, 1, none⟩)) rfl (by kernel_rfl) (by kernel_rfl) (fun _ _ _ h => h) (.inl ⟨by rfl, fun W hW => exec_field (off := 0) (d := 1) rfl rfl (by kernel_rfl)⟩) hS0 ?_
        simp only [Act.put, List.setIfInBounds_toArray, List.set_cons_zero, List.set_cons_succ]
        refine alw_take (i := 5) (v := strV f.2) rfl (by kernel_rfl) (by kernel_rfl) (fun _ _ _ h => h) (.inl ⟨by rfl, fun W hW => exec_load1 rfl rfl (by kernel_rfl) (hW.1.cell 1)⟩) hS0 ?_
        simp only [Act.put, List.setIfInBounds_toArray, List.set_cons_zero, List.set_cons_succ]
        refine alw_take (i := 6) (v := tongV d) rfl (by kernel_rfl) (by kernel_rfl) (fun _ _ _ h => h) (.inl ⟨by rfl, fun W hW => gx_loads rfl rfl (blk_range hW.2.2) Tryz.underlying98 rfl (by rw [size_tongue]; rfl)⟩) hS0 ?_
        simp only [Act.put, List.setIfInBounds_toArray, List.set_cons_zero, List.set_cons_succ]
        refine alw_take (i := 7) (v := .pointer (some ⟨g7, 0, none⟩)) rfl (by kernel_rfl) (by kernel_rfl) (fun _ _ _ h => h) (.inl ⟨by rfl, fun W hW => exec_field (off := 0) (d := 0) rfl rfl (by kernel_rfl)⟩) hS0 ?_
        simp only [Act.put, List.setIfInBounds_toArray, List.set_cons_zero, List.set_cons_succ]
        refine alw_take (i := 8) (v := .int .i64 f.1) rfl (by kernel_rfl) (by kernel_rfl) (fun _ _ _ h => h) (.inl ⟨by rfl, fun W hW => exec_load1 rfl rfl (by kernel_rfl) (hW.1.cell 0)⟩) hS0 ?_
        simp only [Act.put, List.setIfInBounds_toArray, List.set_cons_zero, List.set_cons_succ]
        refine alw_step (i := 9) (by kernel_rfl) rfl rfl ?_
        intro K1 HK1
        go_wp2_with fail
        refine (unsaid_walk d f.1 _).mono ?_
        rintro e w9 ⟨rfl, ht9⟩
        have hS1 : Blk w9 g7 53 (fldA f) ∧ Blk w9 g8 104 #[.int .i64 m.kind, .int .i64 m.size, .int .i64 m.code] ∧ Blk w9 bt 98 (tongA d) := ⟨hS0.1.turn ht9 (fun e => e), hS0.2.1.turn ht9 (fun e => e), hS0.2.2.turn ht9 (fun e => e)⟩
        refine HK1.out _ _ ⟨hS1, ?_⟩
        have HU9 := Lib.hid (HU6d.out.trans ht9 (fun _ _ e => e))
        have HO9 := Lib.hid (own_still HO6d.out ht9)
        clear HK1 hS0 HU6d HO6d ht9
        try simp only [Act.put, List.setIfInBounds_toArray, List.set_cons_zero, List.set_cons_succ]
        refine alw_step (i := 10) (by kernel_rfl) rfl rfl ?_
        intro K1 HK1
        go_wp2_with fail
        refine trim_walk.mono ?_
        rintro e w10 ⟨rfl, rfl⟩
        refine HK1.out _ _ ⟨hS1, ?_⟩
        clear HK1
        try simp only [Act.put, List.setIfInBounds_toArray, List.set_cons_zero, List.set_cons_succ]
        refine alw_step (i := 11) (by kernel_rfl) rfl rfl ?_
        intro K1 HK1
        go_wp2_with fail
        refine (mput_walk (s := s) (no := f.1) (f := m) (t := say d f) (HE.out.sen.turn HU9.out) (HE.out.rows.turn HU9.out) (own_bs HO9.out).1 (by have h1 := own_len HO9.out; have h2 := HLJ.out; have h3 := HLT.out; have h4 := HML.out; omega)).mono ?_
        rintro e w11 ⟨A11, n11, c11, rfl, ho11, ht11⟩
        have hS2 : Blk w11 g7 53 (fldA f) ∧ Blk w11 g8 104 #[.int .i64 m.kind, .int .i64 m.size, .int .i64 m.code] ∧ Blk w11 bt 98 (tongA d) := ⟨hS1.1.turn ht11 (fun e => e), hS1.2.1.turn ht11 (fun e => e), hS1.2.2.turn ht11 (fun e => e)⟩
        refine HK1.out _ _ ⟨hS2, ?_⟩
        have HU11 := Lib.hid (HU9.out.trans ht11 (fun _ _ e => e))
        have HO11 := Lib.hid (own_base ho11 HU9.out.size)
        clear HK1 hS1 HU9 HO9 ht11 ho11
        try simp only [Act.put, List.setIfInBounds_toArray, List.set_cons_zero, List.set_cons_succ]
        obtain ⟨wv, hwv⟩ : ∃ wv, wv = wrapV s f.1 (m.check (say d f)) := ⟨_, rfl⟩
        rw [← hwv]
        have HWV := Lib.hid hwv
        clear hwv
        refine alw_take (i := 12) (v := .tuple #[.slice A11 n11 c11, wv]) rfl (by kernel_rfl) (by kernel_rfl) (fun _ _ _ h => h) (.inl ⟨by rfl, fun W hW => exec_move rfl rfl⟩) hS2 ?_
        simp only [Act.put, List.setIfInBounds_toArray, List.set_cons_zero, List.set_cons_succ]
        refine alw_take (i := 13) (v := .slice A11 n11 c11) rfl (by kernel_rfl) (by kernel_rfl) (fun _ _ _ h => h) (.inl ⟨by rfl, fun W hW => ix_extract rfl rfl rfl⟩) hS2 ?_
        simp only [Act.put, List.setIfInBounds_toArray, List.set_cons_zero, List.set_cons_succ]
        refine alw_take (i := 14) (v := wv) rfl (by kernel_rfl) (by kernel_rfl) (fun _ _ _ h => h) (.inl ⟨by rfl, fun W hW => ix_extract rfl rfl rfl⟩) hS2 ?_
        simp only [Act.put, List.setIfInBounds_toArray, List.set_cons_zero, List.set_cons_succ]
        refine alw_take (i := 15) (v := .slice A11 n11 c11) rfl (by kernel_rfl) (by kernel_rfl) (fun _ _ _ h => h) (.inl ⟨by rfl, fun W hW => gx_assign rfl rfl⟩) hS2 ?_
        simp only [Act.put, List.setIfInBounds_toArray, List.set_cons_zero, List.set_cons_succ]
        refine alw_take (i := 16) (v := wv) rfl (by kernel_rfl) (by kernel_rfl) (fun _ _ _ h => h) (.inl ⟨by rfl, fun W hW => gx_assign rfl rfl⟩) hS2 ?_
        simp only [Act.put, List.setIfInBounds_toArray, List.set_cons_zero, List.set_cons_succ]
        refine alw_done rfl ?_
        have HBT11 := Lib.hid hS2.2.2
        clear hS2
        refine NoPanic.normal ?_

        by_cases hc : m.check (say d f) = 0
        · have hwn : wv = .nilIface := by rw [HWV.out, hc]; rfl
          subst hwn
          have HO12 := Lib.hid (show Own w11 w1.heap.size 5 (.slice A11 n11 c11) (bj ++ m.put (say d f)) from by
            have h := HO11.out
            unfold putR at h
            rw [if_pos hc] at h
            exact h)
          have HNX := Lib.hid (HAT.out.1 hc)
          have HPL := Lib.hid (show (m.put (say d f)).length ≤ 130 from by
            obtain ⟨k1, s1, hm1, hk1, hs1, _⟩ := form_nf HM.out
            rw [hm1] at hc ⊢
            have := put_cap hk1 HD.out hs1 ((check_zero hk1 HD.out hs1).1 hc)
            omega)
          clear hc HO11
          go_wp2_with fail
          go_roundg (gk - 1)
          case measure => have := HJL.out; have := HLT.out; omega
          case rel => exact ⟨j + 1, A11, n11, c11, _, by have := HJL.out; have := HLT.out; omega, by go_num, rfl, HO12.out, by rw [List.length_append]; have := HLJ.out; have := HPL.out; omega, HNX.out, HBT11.out, HU11.out⟩
        · have h41 := check41 HD.out HM.out hc
          have hwn : wv = feV f.1 s.text := by rw [HWV.out, h41]; rfl
          subst hwn
          have HER := Lib.hid (show mencode (d : Int) ty fs = .error 41 from by rw [HR2.out, HAT.out.2 hc])
          clear hc h41
          unfold feV
          go_wp2_with fail
          go_ret2
          exact encP_err HER.out (ErrV.text f.1) (HU.out.trans HU11.out (fun _ _ e => e))
      · have y1 : ¬ ((j : Int) < (n : Int)) := by omega
        have HOK := Lib.hid (show mencode (d : Int) ty fs = .ok bj from by
          have h := HPJ.out
          rw [List.drop_eq_nil_iff.2 (by rw [HNL.out]; omega)] at h
          rw [HR2.out, ← h]
          rfl)
        clear hlt
        go_wp2_with fail
        go_ret2
        rw [HOK.out]
        exact ⟨_, _, _, _, rfl, ErrV.nil, own_base HOJ.out HU.out.size, HU.out.trans HTR.out (fun _ _ e => e)⟩
    · have HER := Lib.hid (show mencode (d : Int) ty fs = .error (mcheck ty fs) from by rw [HR.out, if_neg hck])
      obtain ⟨t9, x9, hv9⟩ := errV_some HCV.out hck
      have HV := HCV.out
      rw [hv9] at HV ⊢
      have HV9 := Lib.hid HV
      clear hck hv9 HCV HV HR
      go_wp2_with fail
      go_ret2
      exact encP_err HER.out HV9.out (HU.out.trans HU7.out (fun _ _ e => e))
  · have HER := Lib.hid (show mencode dd ty fs = .error 50 from by unfold mencode; rw [if_neg hd])
    refine wpList_op rfl fun K9 HK9 => ?_
    go_wp2_with fail
    refine (tongueOf_bad (s := s) hd HE.out.sen).mono ?_
    rintro e w2 ⟨rfl, ht2⟩
    refine HK9.out _ _ ?_
    clear HK9
    try simp only [Act.put, List.setIfInBounds_toArray, List.set_cons_zero, List.set_cons_succ]
    have HU2 := Lib.hid ht2
    have HB2 := Lib.hid (HB.out.turn ht2 (fun e => e))
    clear ht2 HB hd
    refine wpList_run (v := .tuple #[.agg #[.int .i64 0, strV [], strV []], errS s.dialect]) rfl (exec_move rfl rfl) ?_
    simp only [Act.put, List.setIfInBounds_toArray, List.set_cons_zero, List.set_cons_succ]
    refine wpList_run (v := .agg #[.int .i64 0, strV [], strV []]) rfl (ix_extract rfl rfl rfl) ?_
    simp only [Act.put, List.setIfInBounds_toArray, List.set_cons_zero, List.set_cons_succ]
    refine wpList_run (v := errS s.dialect) rfl (ix_extract rfl rfl rfl) ?_
    simp only [Act.put, List.setIfInBounds_toArray, List.set_cons_zero, List.set_cons_succ]
    refine wpList_run (v := .pointer (some ⟨w2.heap.size, 0, none⟩)) (w' := w2.alloc (.cells #[.int .i64 0, strV [], strV []] 98)) rfl (gx_alloc rfl (zero_tongue _)) ?_
    simp only [Act.put, List.setIfInBounds_toArray, List.set_cons_zero, List.set_cons_succ]
    have hb8 := Blk.new w2 98 #[.int .i64 0, strV [], strV []]
    have hu8 := HU2.out.alloc (.cells #[.int .i64 0, strV [], strV []] 98)
    have hbm8 := HB2.out.alloc (.cells #[.int .i64 0, strV [], strV []] 98)
    obtain ⟨bt, hbt⟩ : ∃ bt, bt = w2.heap.size := ⟨_, rfl⟩
    rw [← hbt] at hb8 ⊢
    have HG8 := Lib.hid (show w1.heap.size ≤ bt from by rw [hbt]; exact HU2.out.size)
    have HN8 := Lib.hid (show bm ≠ bt from by have := HB2.out.lt; omega)
    clear hbt
    generalize w2.alloc (.cells #[.int .i64 0, strV [], strV []] 98) = w5 at *
    refine wpList_store_row rfl 98 (.tmp 6) (.tmp 17) rfl #[.int .i64 0, strV [], strV []] hb8 rfl rfl rfl (by rw [size_tongue]; rfl) zeroT_one ?_
    intro w6 hb6 hu6
    have HBT := Lib.hid hb6
    have HBM := Lib.hid (hbm8.turn hu6 (fun e => HN8.out e))
    have HU6 := Lib.hid (hu8.trans hu6 (fun k hk e => by
      have := HG8.out
      have e : k = bt := e
      omega))
    clear hb8 hu8 hbm8 hb6 hu6 HB2 HU2
    simp only [Act.put, List.setIfInBounds_toArray, List.set_cons_zero, List.set_cons_succ]

    unfold errS
    go_wp2_with fail
    go_ret2
    exact encP_err HER.out ErrV.dialect (HU.out.trans HU6.out (fun _ _ e => e))
end Go.Proofs.YtfnillibngijaaaGreatDoor
namespace Go.Proofs.YtfnillibngijaaaGreatDoor
open Go.RowKit
open Fdd
set_option linter.unusedVariables false
set_option linter.unusedSimpArgs false
def EncodeP (r : Except Int (List UInt8)) (w : World) (e : Ending) (w' : World) : Prop := ∃ A n c, e = .returned (.tuple #[.slice A n c, .int .i64 (codeE r)]) ∧ Own w' w.heap.size 5 (.slice A n c) (bytesE r) ∧ Turn nowhere w w'
set_option maxRecDepth 20000 in
theorem Encode_walk {s : Sents} {w : World} {dd ty : Int} {A : Option Addr} {n c : Nat} {fs : List Fld} (he : Env s w) (hf : Fl w A n fs) :
    Calls Tryz.prog 24 #[.int .i64 dd, msgV ty A n c] w (EncodeP (mencode dd ty fs) w) := by
  have hu := (Turn.refl nowhere w).alloc (.cells #[.int .i64 ty, .slice A n c] 49)
  have hb := Blk.new w 49 #[.int .i64 ty, .slice A n c]
  obtain ⟨bm, hbm⟩ : ∃ bm, bm = w.heap.size := ⟨_, rfl⟩
  obtain ⟨w1, hw1⟩ : ∃ w1, w1 = w.alloc (.cells #[.int .i64 ty, .slice A n c] 49) := ⟨_, rfl⟩
  rw [← hw1] at hu hb
  rw [← hbm] at hb
  have HE := Lib.hid (he.turn hu)
  have HF := Lib.hid (hf.still hu)
  have HU := Lib.hid hu
  have HB := Lib.hid hb
  have HW := Lib.hid hw1
  have HBM := Lib.hid hbm
  clear he hf hu hb hw1 hbm
  unfold msgV
  go_enter Tryz.func24, Tryz.ntmps24
  go_upto_region 1 with fail
  have e1 := HW.out
  have e2 := HBM.out
  rw [← e1, ← e2]
  clear e1 e2 HW HBM
  refine wp_region_lit ?_
  refine wpList_run (v := .int .i64 dd) rfl (exec_move rfl rfl) ?_
  simp only [Act.put, List.setIfInBounds_toArray, List.set_cons_zero, List.set_cons_succ]
  refine wpList_run (v := msgV ty A n c) rfl (gx_loads rfl rfl (blk_range HB.out) Tryz.underlying49 rfl (by rw [size_msg]; rfl)) ?_
  simp only [Act.put, List.setIfInBounds_toArray, List.set_cons_zero, List.set_cons_succ]
  refine wpList_op rfl fun K9 HK9 => ?_
  go_wp2_with fail
  refine (encode_walk (s := s) HE.out HF.out).mono ?_
  rintro e w2 ⟨A2, n2, c2, v2, rfl, hv2, ho2, ht2⟩
  refine HK9.out _ _ ?_
  clear HK9
  try simp only [Act.put, List.setIfInBounds_toArray, List.set_cons_zero, List.set_cons_succ]
  refine wpList_run (v := .tuple #[.slice A2 n2 c2, v2]) rfl (exec_move rfl rfl) ?_
  simp only [Act.put, List.setIfInBounds_toArray, List.set_cons_zero, List.set_cons_succ]
  refine wpList_run (v := .slice A2 n2 c2) rfl (ix_extract rfl rfl rfl) ?_
  simp only [Act.put, List.setIfInBounds_toArray, List.set_cons_zero, List.set_cons_succ]
  refine wpList_run (v := v2) rfl (ix_extract rfl rfl rfl) ?_
  simp only [Act.put, List.setIfInBounds_toArray, List.set_cons_zero, List.set_cons_succ]
  refine wpList_run (v := .slice A2 n2 c2) rfl (gx_assign rfl rfl) ?_
  simp only [Act.put, List.setIfInBounds_toArray, List.set_cons_zero, List.set_cons_succ]
  refine wpList_run (v := v2) rfl (gx_assign rfl rfl) ?_
  simp only [Act.put, List.setIfInBounds_toArray, List.set_cons_zero, List.set_cons_succ]

  have HV := Lib.hid hv2
  have HO := Lib.hid ho2
  have HT := Lib.hid ht2
  clear hv2 ho2 ht2 HB
  generalize mencode dd ty fs = r at *
  go_upto_region 2 with fail
  refine wp_region_lit ?_
  refine wpList_run (v := .slice A2 n2 c2) rfl (exec_move rfl rfl) ?_
  simp only [Act.put, List.setIfInBounds_toArray, List.set_cons_zero, List.set_cons_succ]
  refine wpList_run (v := v2) rfl (exec_move rfl rfl) ?_
  simp only [Act.put, List.setIfInBounds_toArray, List.set_cons_zero, List.set_cons_succ]
  refine wpList_op rfl fun K9 HK9 => ?_
  go_wp2_with fail
  refine (tell_walk HV.out (HE.out.sen.turn HT.out)).mono ?_
  rintro e w3 ⟨rfl, ht3⟩
  refine HK9.out _ _ ?_
  clear HK9
  try simp only [Act.put, List.setIfInBounds_toArray, List.set_cons_zero, List.set_cons_succ]
  refine wpList_run (v := .slice A2 n2 c2) rfl (gx_assign rfl rfl) ?_
  simp only [Act.put, List.setIfInBounds_toArray, List.set_cons_zero, List.set_cons_succ]
  refine wpList_run (v := .int .i64 (codeE r)) rfl (gx_assign rfl rfl) ?_
  simp only [Act.put, List.setIfInBounds_toArray, List.set_cons_zero, List.set_cons_succ]

  have HT3 := Lib.hid ht3
  clear ht3
  go_wp2_with fail
  go_ret2
  exact ⟨_, _, _, rfl, own_base (own_still HO.out HT3.out) HU.out.size, (HU.out.trans HT.out (fun _ _ e => e)).trans HT3.out (fun _ _ e => e)⟩
end Go.Proofs.YtfnillibngijaaaGreatDoor
namespace Go.Proofs.YtfnillibngijaaaGreatDoor
open Go.RowKit
open Fdd
set_option linter.unusedVariables false
set_option linter.unusedSimpArgs false
theorem above {w0 w w' : World} {g : Nat} (h : Turn nowhere w0 w) (hg : w0.heap.size ≤ g) (ht : Turn (only g) w w') : Turn nowhere w0 w' := h.trans ht (fun k hk e => by
  have e : k = g := e
  omega)
end Go.Proofs.YtfnillibngijaaaGreatDoor
namespace Go.Proofs.YtfnillibngijaaaGreatDoor
open Go.RowKit
open Fdd
set_option linter.unusedVariables false
set_option linter.unusedSimpArgs false
section
variable {a : Act} {o : Oper} {W : World} {x y : Operand} {t u : TypeId}
end
end Go.Proofs.YtfnillibngijaaaGreatDoor
namespace Go.Proofs.YtfnillibngijaaaGreatDoor
open Go.Shelf
end Go.Proofs.YtfnillibngijaaaGreatDoor
namespace Go.Proofs.YtfnillibngijaaaGreatDoor
open Go.RowKit
open Fdd
set_option linter.unusedVariables false
set_option linter.unusedSimpArgs false
end Go.Proofs.YtfnillibngijaaaGreatDoor
