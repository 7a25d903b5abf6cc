/-
  Texts in one file: FdJ. Conditions: the tables and the errors read as the program's text lays them.
-/
import Derived.Test.YtfnillibngijaaaGreatDoorJB14
namespace Go.Proofs.YtfnillibngijaaaGreatDoor
open Go.RowKit
open Fdd
set_option linter.unusedVariables false
/-- a part that a code may be made of -/
structure Gd (p : Pt) : Prop where
  st : (p.stands = [] ∧ p.chars.length ≤ 16 ∧ 48 ∈ p.chars) ∨ (p.stands ≠ [] ∧ p.stands.length = p.chars.length)
  ch : p.chars.length ≤ 99
  n1 : 1 ≤ p.n
  n2 : p.n ≤ 200
  asc : ascii p.chars
theorem zero_part (w : World) : (zeroValue 176).run Tryz.prog w = .ok (.agg #[.int .i64 0, .string ByteArray.empty, .string ByteArray.empty]) w := by kernel_rfl
theorem size_part : (Tryz.prog.info? 176).map (·.size) = some 3 := by kernel_rfl
theorem pt_one (p : Pt) : ∀ v ∈ (ptC p).toArray.toList, v.oneCell' = true := by simp [ptC, strV, Value.oneCell']
theorem load_part {w : World} {g q : Nat} {p : Pt} (h : w.rangeAt g q (ptC p)) : (Instr.loadAt 176 (.pointer (some ⟨g, q, none⟩))).run Tryz.prog w = .ok (.agg (ptC p).toArray) w :=
  run_loadAt_mid w g q 176 (ptC p) _ h Tryz.underlying176 rfl (by rw [size_part]; rfl)
theorem load_blkPart {w : World} {g : Nat} {p : Pt} (h : Blk w g 176 (ptC p).toArray) : (Instr.loadAt 176 (.pointer (some ⟨g, 0, none⟩))).run Tryz.prog w = .ok (.agg (ptC p).toArray) w :=
  load_part fun j v hv => by
    rw [Nat.zero_add, h.cell j]
    simpa using hv
theorem wpList_store_part {P : Program} {ops : Array Oper} {rest : List Oper} {o : Oper} {a : Act} {w : World} {Q : Exit → Act → World → Prop} (hgd : Region.wanted o (yielded ops a.tmps) = true) (x y : Operand) (ho : o.op = .store 176 x y) {g : Nat} {p : Pt} {old : Array Value} (hb : Blk w g 176 old) (hs : old.size = 3)
    (hx : a.eval x = .pointer (some ⟨g, 0, none⟩)) (hy : a.eval y = .agg (ptC p).toArray) (hi : (P.info? 176).map (·.size) = some 3)
    (h : ∀ w', Blk w' g 176 (ptC p).toArray → Turn (only g) w w' → wpList P ops Q rest (a.put o.dst undef) w') : wpList P ops Q (o :: rest) a w :=
  wpList_store_row hgd 176 x y ho (ptC p).toArray hb hx hy hs hi (pt_one p) h
theorem field_put (x y z : Value) (W : World) : (Instr.field 192 (.agg #[x, y, z]) 1).run Tryz.prog W = .ok y W := by kernel_rfl
theorem exec_getField {P : Program} {a : Act} {o : Oper} {t : TypeId} {x : Operand} {n : Nat} {u v : Value} {W : World} (ho : o.op = .field t x n) (hx : a.eval x = u) (h : (Instr.field t u n).run P W = .ok v W) : (execOp a.eval o).run P W = .ok (.value v) W := by
  unfold execOp
  simp only [ho, hx, h, Sem.run_bind, Sem.run_pure, Result.andThen_ok]
theorem row_keep {w w' : World} {B : Nat} {e : TypeId} {sz n : Nat} {v : Value} {xs : List Value} (h : w.ownsRow B e sz v n xs) (hk : ∀ g, v.ownBlock = some g → w'.heap[g]? = w.heap[g]?) : w'.ownsRow B e sz v n xs := by
  refine ⟨h.1, ?_⟩
  rcases h.2 with h2 | ⟨g, cap, cur, rfl, h3, h4, h5⟩
  · exact .inl h2
  · exact .inr ⟨g, cap, cur, rfl, h3, (hk g rfl).trans h4, h5⟩
theorem own_turn {w w' : World} {B : Nat} {e : TypeId} {v : Value} {bs : List UInt8} (h : Own w B e v bs) (ht : Turn nowhere w w') : Own w' B e v bs := row_keep h fun g hg => ht.block g (h.lt g hg).2 (fun e => e)
theorem code_put {w : World} {cv : Array Value} {p : Pt} (h : CodeAt w cv p) (hg : Gd p) {B : Nat} {t bs : List UInt8} {A0 : Option Addr} {n0 c0 : Nat} (ht : onlyOf t p.chars = true) (hown : Own w B 5 (.slice A0 n0 c0) bs) (hB : B ≤ w.heap.size)
    (hlen : bs.length + t.length ≤ 140737488354000) (ht1 : t.length ≤ 1000) :
    ∃ f c x y, cv = #[x, .func (.func f) #[] c, y] ∧ (f = 123 ∨ f = 120) ∧
    Calls Tryz.prog f (#[.slice A0 n0 c0, strV t] ++ c) w fun e w' => ∃ A n c', e = .returned (.slice A n c') ∧ Own w' B 5 (.slice A n c') (bs ++ p.enc t) ∧ Ext w w' (.slice A0 n0 c0) (.slice A n c') := by
  unfold Pt.enc
  rcases h with ⟨h0, q, c, rfl, h1, h2⟩ | ⟨h0, q, c, rfl, h1, h2⟩
  · rw [if_pos h0]
    rcases hg.st with ⟨_, g2, g3⟩ | ⟨g1, _⟩
    · exact ⟨_, #[ptrTo q], _, _, rfl, .inr rfl, pput_walk h1 h2 ht g3 hown hB hlen ht1 g2⟩
    · exact absurd h0 g1
  · rw [if_neg h0]
    rcases hg.st with ⟨g1, _⟩ | ⟨_, g2⟩
    · exact absurd g1 h0
    · exact ⟨_, #[ptrTo q, ptrTo c], _, _, rfl, .inl rfl, sput_walk h1 h2 ht g2 hown hB (by omega) ht1 (by have := hg.ch; omega)⟩
theorem enc_len (p : Pt) (t : List UInt8) : (p.enc t).length ≤ t.length + 1 := by
  unfold Pt.enc
  by_cases h : p.stands = []
  · rw [if_pos h]
    have h1 := pack_le p.chars (padded t)
    have h2 := padded_len t
    omega
  · rw [if_neg h, List.length_map]
    omega
theorem right_cons {p : Pt} {r : List Pt} {t : List UInt8} (h : rightAll (p :: r) t = true) : p.n ≤ t.length ∧ onlyOf (t.take p.n) p.chars = true ∧ rightAll r (t.drop p.n) = true := by
  simpa [rightAll] using h
theorem drop_cons {ps r : List Pt} {p : Pt} {k : Nat} (h : ps.drop k = p :: r) : ps[k]? = some p ∧ ps.drop (k + 1) = r ∧ k < ps.length := by
  have h1 : ps[k]? = some p := by
    have := congrArg (fun l => l[0]?) h
    simpa [List.getElem?_drop] using this
  refine ⟨h1, ?_, (List.getElem?_eq_some_iff.1 h1).1⟩
  have := congrArg (List.drop 1) h
  simpa [List.drop_drop, Nat.add_comm] using this
def PtB (b8 : Nat) (p : Pt) (W : World) : Prop := Blk W b8 176 (ptC p).toArray
set_option maxRecDepth 20000 in
set_option maxHeartbeats 2000000 in
theorem put_walk {w : World} {g B np cp : Nat} {ps : List Pt} {t bs : List UInt8} {A0 : Option Addr} {n0 c0 : Nat} (hp : PtsAt w g ps) (hnp : ps.length = np) (hg : ∀ p ∈ ps, Gd p) (hr : rightAll ps t = true) (hown : Own w B 5 (.slice A0 n0 c0) bs) (hB : B ≤ w.heap.size) (hlen : bs.length + 10 * t.length ≤ 140737488354000) (ht1 : t.length ≤ 1000) (hps : np ≤ 5) :
    Calls Tryz.prog 82 #[.slice A0 n0 c0, .slice (some ⟨g, 0, none⟩) np cp, strV t] w fun e w' => ∃ A n c', e = .returned (.slice A n c') ∧ Own w' B 5 (.slice A n c') (bs ++ encAll ps t) ∧ Ext w w' (.slice A0 n0 c0) (.slice A n c') := by
  have HP := Lib.hid hp
  have HNP := Lib.hid hnp
  have HG := Lib.hid hg
  have HO := Lib.hid hown
  have HB := Lib.hid hB
  have HN := Lib.hid hlen
  have HT1 := Lib.hid ht1
  have HPS := Lib.hid hps
  have HR := Lib.hid hr
  clear hp hg hown hB hlen ht1 hps hnp hr
  go_enter Tryz.func82, Tryz.ntmps82
  go_upto_region 2 with fail
  go_loopg [0, 2, 11] np (fun gk b x i wr => ∃ (k : Nat) (A : Option Addr) (n c' : Nat) (t2 e1 : List UInt8), k + gk = np ∧ i = .int .i64 (k : Int) ∧ b = .slice A n c' ∧ x = strV t2 ∧ Own wr B 5 (.slice A n c') (bs ++ e1) ∧ e1 ++ encAll (ps.drop k) t2 = encAll ps t ∧ rightAll (ps.drop k) t2 = true ∧ t2.length ≤ t.length ∧ Ext w wr (.slice A0 n0 c0) (.slice A n c') ∧ e1.length ≤ 2 * k * t.length)
  case atStart => exact ⟨0, _, _, _, t, [], by omega, rfl, rfl, rfl, by simpa using HO.out, by simp, HR.out, Nat.le_refl _, Ext.refl _ _, by simp⟩
  case round =>
    obtain ⟨k, A, n, c', t2, e1, hkl, rfl, rfl, rfl, hO, henc, hright, htl, hE, hel⟩ := hrel
    have HKL := Lib.hid hkl
    have HO' := Lib.hid hO
    have HENC := Lib.hid henc
    have HTL := Lib.hid htl
    have HE := Lib.hid hE
    have HEL := Lib.hid hel
    have HRR := Lib.hid hright
    clear hkl hO henc htl hE hel hright
    by_cases hlt : k < np
    · have y1 : (k : Int) < (np : Int) := by omega
      have y2 : (0 : Int) ≤ (k : Int) := by omega
      have y3 : (np : Int) ≤ 5 := by have := HPS.out; omega
      obtain ⟨p, r, hd⟩ : ∃ p r, ps.drop k = p :: r := by
        cases h : ps.drop k with
        | nil =>
          have := congrArg List.length h
          rw [List.length_drop, HNP.out] at this
          simp at this
          omega
        | cons p r => exact ⟨p, r, rfl⟩
      have HD := Lib.hid (drop_cons hd)
      have hrr := HRR.out
      have hen := HENC.out
      rw [hd] at hrr hen
      have HRC := Lib.hid (right_cons hrr)
      have HEN := Lib.hid hen
      have HLT := Lib.hid hlt
      clear hlt hd hrr hen
      go_upto_region 3 with fail
      have hk0 : wr.rangeAt g (k * 3) (ptC p) := ((let ⟨_, hb, _⟩ := HP.out; HP.out.turn HE.out.tr (row_ne HO.out hb (by decide)))).range HD.out.1
      refine wp_region_lit ?_
      refine wpList_run (v := .pointer (some ⟨g, k * 3, none⟩)) (w' := wr) rfl (by go_simp) ?_
      simp only [Act.put, List.setIfInBounds_toArray, List.set_cons_zero, List.set_cons_succ]
      refine wpList_run (v := .agg (ptC p).toArray) rfl (exec_load rfl rfl (load_part hk0)) ?_
      simp only [Act.put, List.setIfInBounds_toArray, List.set_cons_zero, List.set_cons_succ]
      refine wpList_run (v := _) rfl (exec_alloc rfl (zero_part _)) ?_
      simp only [Act.put, List.setIfInBounds_toArray, List.set_cons_zero, List.set_cons_succ]
      have hbn := Blk.new wr 176 #[.int .i64 0, .string ByteArray.empty, .string ByteArray.empty]
      have htn := (Turn.refl nowhere wr).alloc (.cells #[.int .i64 0, .string ByteArray.empty, .string ByteArray.empty] 176)
      generalize (wr.alloc (.cells #[.int .i64 0, .string ByteArray.empty, .string ByteArray.empty] 176)) = w4 at *
      obtain ⟨b8, hb8⟩ : ∃ b8, b8 = wr.heap.size := ⟨_, rfl⟩
      rw [← hb8] at hbn ⊢
      refine wpList_store_part rfl (.tmp 8) (.tmp 14) rfl hbn rfl rfl rfl size_part ?_
      intro w5 hq5 ht5
      have HT5 := Lib.hid (show Turn nowhere wr w5 from htn.trans ht5 (fun j hj e => by have h2 : j = b8 := e; omega))
      have HB5 := Lib.hid hq5
      clear hk0 hbn htn hb8 hq5 ht5
      simp only [Act.put]
      have HGD := Lib.hid (HG.out p (List.mem_of_getElem? HD.out.1))
      go_upto_region 4 with fail
      have hS0 : PtB b8 p w5.drew := HB5.out.drew
      refine wp_region_till (PtB b8 p) 9 (by kernel_rfl) ?_
      refine till_take (i := 0) (v := .agg (ptC p).toArray) rfl (by kernel_rfl) (by kernel_rfl) (fun _ _ _ h => h) (.inl ⟨by rfl, fun W hW => exec_load rfl rfl (load_blkPart hW)⟩) hS0 ?_
      simp only [Act.put, List.setIfInBounds_toArray, List.set_cons_zero, List.set_cons_succ]
      refine till_pure (i := 3) (v := .slice A n c') rfl (by kernel_rfl) (by kernel_rfl) (fun _ _ _ h => h) (.inl ⟨by rfl, fun W hW => exec_move rfl rfl⟩) hS0 ?_
      simp only [Act.put, List.setIfInBounds_toArray, List.set_cons_zero, List.set_cons_succ]
      refine till_pure (i := 4) (v := strV t2) rfl (by kernel_rfl) (by kernel_rfl) (fun _ _ _ h => h) (.inl ⟨by rfl, fun W hW => exec_move rfl rfl⟩) hS0 ?_
      simp only [Act.put, List.setIfInBounds_toArray, List.set_cons_zero, List.set_cons_succ]
      refine till_pure (i := 5) (v := .pointer (some ⟨b8, 0, none⟩)) rfl (by kernel_rfl) (by kernel_rfl) (fun _ _ _ h => h) (.inl ⟨by rfl, fun W hW => exec_field (off := 0) (d := 0) rfl rfl (by kernel_rfl)⟩) hS0 ?_
      simp only [Act.put, List.setIfInBounds_toArray, List.set_cons_zero, List.set_cons_succ]
      refine till_take (i := 6) (v := .int .i64 (p.n : Int)) rfl (by kernel_rfl) (by kernel_rfl) (fun _ _ _ h => h) (.inl ⟨by rfl, fun W hW => exec_load1 rfl rfl (by kernel_rfl) (Blk.cell hW 0)⟩) hS0 ?_
      simp only [Act.put, List.setIfInBounds_toArray, List.set_cons_zero, List.set_cons_succ]
      refine till_pure (i := 7) (v := strV (t2.take p.n)) rfl (by kernel_rfl) (by kernel_rfl) (fun _ _ _ h => h) (.inl ⟨by rfl, fun W hW => exec_sto rfl rfl rfl HRC.out.1⟩) hS0 ?_
      simp only [Act.put, List.setIfInBounds_toArray, List.set_cons_zero, List.set_cons_succ]
      refine till_step (i := 1) (by kernel_rfl) rfl rfl ?_
      intro K1 HK1
      go_wp2_with fail
      refine (codeOf_walk p _).mono ?_
      rintro e w6 ⟨cv, rfl, hcode, ht6⟩
      have hS1 : PtB b8 p w6 := hS0.turn ht6 (fun e => e)
      refine HK1.out _ _ ⟨fun _ => hS1, ?_⟩
      clear HK1
      have hE6 : Ext w w6 (.slice A0 n0 c0) (.slice A n c') := (HE.out.still ((HT5.out.drew).trans ht6 (fun _ _ e => e)))
      have hO6 : Own w6 B 5 (.slice A n c') (bs ++ e1) := own_turn HO'.out ((HT5.out.drew).trans ht6 (fun _ _ e => e))
      obtain ⟨f, cc, xx, yy, rfl, hf, hcall⟩ := code_put hcode HGD.out HRC.out.2.1 hO6 (Nat.le_trans HB.out hE6.tr.size) (by
        rw [List.length_append, List.length_take]
        have h1 := HN.out
        have h2 := HEL.out
        have h3 := HTL.out
        have h4 := HLT.out
        have h5 := HPS.out
        have h6 : 2 * k * t.length ≤ 8 * t.length := Nat.mul_le_mul_right _ (by omega)
        omega) (by rw [List.length_take]; have := HT1.out; have := HTL.out; omega)
      have HCALL := Lib.hid hcall
      have HE6 := Lib.hid hE6
      have HO6 := Lib.hid hO6
      clear hcall hcode ht6 hE6 hO6
      refine till_pure (i := 2) (v := .func (.func f) #[] cc) rfl (by kernel_rfl) (by kernel_rfl) (fun _ _ _ h => h) (.inl ⟨by rfl, fun W hW => exec_getField rfl rfl (field_put _ _ _ W)⟩) hS1 ?_
      simp only [Act.put, List.setIfInBounds_toArray, List.set_cons_zero, List.set_cons_succ]
      refine till_step (i := 8) (by kernel_rfl) rfl rfl ?_
      intro K1 HK1
      have HS1 := Lib.hid hS1
      clear hS0 hS1
      rcases hf with rfl | rfl
      · go_wp2_with fail
        refine HCALL.out.mono ?_
        rintro e w7 ⟨A7, n7, c7, rfl, hO7, hE7⟩
        have hS2 : PtB b8 p w7 := Blk.ext HS1.out hE7 (row_ne HO6.out HS1.out (by decide))
        refine HK1.out _ _ ⟨fun _ => hS2, ?_⟩
        clear HK1
        have HO7 := Lib.hid hO7
        have HE7 := Lib.hid (HE6.out.trans hE7)
        have HB7 := Lib.hid hS2
        clear hO7 hE7 hS2
        refine till_tail 9 rfl (by kernel_rfl) ?_
        go_wp2_with fail
        refine NoPanic.normal ?_
        go_upto_region 5 with fail
        refine wp_region_lit ?_
        refine wpList_run (v := strV t2) rfl (exec_move rfl rfl) ?_
        simp only [Act.put, List.setIfInBounds_toArray, List.set_cons_zero, List.set_cons_succ]
        refine wpList_run (v := .pointer (some ⟨b8, 0, none⟩)) rfl (exec_field (off := 0) (d := 0) rfl rfl (by kernel_rfl)) ?_
        simp only [Act.put, List.setIfInBounds_toArray, List.set_cons_zero, List.set_cons_succ]
        refine wpList_run (v := .int .i64 (p.n : Int)) rfl (exec_load1 rfl rfl (by kernel_rfl) (Blk.cell HB7.out 0)) ?_
        simp only [Act.put, List.setIfInBounds_toArray, List.set_cons_zero, List.set_cons_succ]
        refine wpList_run (v := strV (t2.drop p.n)) (w' := w7) rfl (exec_sfrom rfl rfl rfl HRC.out.1) ?_
        simp only [Act.put, List.setIfInBounds_toArray, List.set_cons_zero, List.set_cons_succ]
        go_wp2_with fail
        go_roundg (gk - 1)
        case measure => have := HKL.out; have := HLT.out; omega
        case rel =>
          refine ⟨k + 1, A7, n7, c7, t2.drop p.n, e1 ++ p.enc (t2.take p.n), by have := HKL.out; have := HLT.out; omega, by go_num, rfl, rfl, ?_, ?_, ?_, ?_, HE7.out, ?_⟩
          · rw [← List.append_assoc]
            exact HO7.out
          · rw [HD.out.2.1, List.append_assoc]
            exact HEN.out
          · rw [HD.out.2.1]
            exact HRC.out.2.2
          · rw [List.length_drop]
            have := HTL.out
            omega
          · have h1 := enc_len p (t2.take p.n)
            have h2 := HEL.out
            have h3 := HTL.out
            have h5 := HGD.out.n1
            have h6 := HRC.out.1
            rw [List.length_take] at h1
            rw [List.length_append, show 2 * (k + 1) * t.length = 2 * k * t.length + 2 * t.length from by rw [Nat.mul_add, Nat.add_mul]]
            omega
      · go_wp2_with fail
        refine HCALL.out.mono ?_
        rintro e w7 ⟨A7, n7, c7, rfl, hO7, hE7⟩
        have hS2 : PtB b8 p w7 := Blk.ext HS1.out hE7 (row_ne HO6.out HS1.out (by decide))
        refine HK1.out _ _ ⟨fun _ => hS2, ?_⟩
        clear HK1
        have HO7 := Lib.hid hO7
        have HE7 := Lib.hid (HE6.out.trans hE7)
        have HB7 := Lib.hid hS2
        clear hO7 hE7 hS2
        refine till_tail 9 rfl (by kernel_rfl) ?_
        go_wp2_with fail
        refine NoPanic.normal ?_
        go_upto_region 5 with fail
        refine wp_region_lit ?_
        refine wpList_run (v := strV t2) rfl (exec_move rfl rfl) ?_
        simp only [Act.put, List.setIfInBounds_toArray, List.set_cons_zero, List.set_cons_succ]
        refine wpList_run (v := .pointer (some ⟨b8, 0, none⟩)) rfl (exec_field (off := 0) (d := 0) rfl rfl (by kernel_rfl)) ?_
        simp only [Act.put, List.setIfInBounds_toArray, List.set_cons_zero, List.set_cons_succ]
        refine wpList_run (v := .int .i64 (p.n : Int)) rfl (exec_load1 rfl rfl (by kernel_rfl) (Blk.cell HB7.out 0)) ?_
        simp only [Act.put, List.setIfInBounds_toArray, List.set_cons_zero, List.set_cons_succ]
        refine wpList_run (v := strV (t2.drop p.n)) (w' := w7) rfl (exec_sfrom rfl rfl rfl HRC.out.1) ?_
        simp only [Act.put, List.setIfInBounds_toArray, List.set_cons_zero, List.set_cons_succ]
        go_wp2_with fail
        go_roundg (gk - 1)
        case measure => have := HKL.out; have := HLT.out; omega
        case rel =>
          refine ⟨k + 1, A7, n7, c7, t2.drop p.n, e1 ++ p.enc (t2.take p.n), by have := HKL.out; have := HLT.out; omega, by go_num, rfl, rfl, ?_, ?_, ?_, ?_, HE7.out, ?_⟩
          · rw [← List.append_assoc]
            exact HO7.out
          · rw [HD.out.2.1, List.append_assoc]
            exact HEN.out
          · rw [HD.out.2.1]
            exact HRC.out.2.2
          · rw [List.length_drop]
            have := HTL.out
            omega
          · have h1 := enc_len p (t2.take p.n)
            have h2 := HEL.out
            have h3 := HTL.out
            have h5 := HGD.out.n1
            have h6 := HRC.out.1
            rw [List.length_take] at h1
            rw [List.length_append, show 2 * (k + 1) * t.length = 2 * k * t.length + 2 * t.length from by rw [Nat.mul_add, Nat.add_mul]]
            omega
    · have hke : k = np := by have := HKL.out; omega
      have y1 : ¬ ((k : Int) < (np : Int)) := by omega
      clear hlt
      have hen := HENC.out
      rw [List.drop_of_length_le (by rw [HNP.out, hke]; exact Nat.le_refl _)] at hen
      have he : e1 = encAll ps t := by simpa [encAll] using hen
      have HEE := Lib.hid he
      clear hke hen he
      go_wp2_with fail
      go_ret
      refine ⟨A, n, c', rfl, ?_, HE.out⟩
      have := HO'.out
      rwa [HEE.out] at this
end Go.Proofs.YtfnillibngijaaaGreatDoor
