/-
  field's codes: reading two digits a byte. Condition: there are as many bytes as the digits take.
-/
import Derived.Test.YtgdlidjjogoiaaaGreatDoorFdH
import Derived.Test.YtgdlidjjogoiaaaGreatDoorFdG
namespace Go.Proofs.YtgdlidjjogoiaaaGreatDoor
open Go.RowKit
open Fdd
set_option linter.unusedVariables false
theorem exec_shr4 {W : World} {a : Act} {o : Oper} {x : Operand} (z : UInt8) (ho : o.op = .binOp .shr 5 x (.const (.int .u64 4)) 79) (hx : a.eval x = .int .u8 (z.toNat : Int)) : (execOp a.eval o).run Tryz.prog W = .ok (.value (.int .u8 ((z.toNat / 16 : Nat) : Int))) W := by
  unfold execOp
  simp only [ho, hx]
  go_simp
theorem exec_and15 {W : World} {a : Act} {o : Oper} {x : Operand} (z : UInt8) (ho : o.op = .binOp .and 5 x (.const (.int .u8 15)) 5) (hx : a.eval x = .int .u8 (z.toNat : Int)) : (execOp a.eval o).run Tryz.prog W = .ok (.value (.int .u8 ((z.toNat % 16 : Nat) : Int))) W := by
  unfold execOp
  simp only [ho, hx]
  go_simp
  have h : ∀ k : Fin 256, bits BinOp.and IntKind.u8 (k.val : Int) 15 = (k.val : Int) % 16 := by decide +kernel
  exact h ⟨z.toNat, z.toNat_lt⟩
theorem exec_sub {W : World} {a : Act} {o : Oper} {x y : Operand} {m n : Nat} (ho : o.op = .binOp .sub 3 x y 3) (hx : a.eval x = .int .i64 (m : Int)) (hy : a.eval y = .int .i64 (n : Int)) (h : n ≤ m) (hm : m ≤ 1000000) : (execOp a.eval o).run Tryz.prog W = .ok (.value (.int .i64 ((m - n : Nat) : Int))) W := by
  unfold execOp
  simp only [ho, hx, hy]
  have e : IntKind.i64.wrap ((m : Int) - (n : Int)) = ((m - n : Nat) : Int) := by
    rw [IntKind.wrap_i64]
    omega
  rw [← e]
  go_simp
theorem exec_u8int {W : World} {a : Act} {o : Oper} {x : Operand} (n : Nat) (hn : n < 256) (ho : o.op = .convert 5 3 x) (hx : a.eval x = .int .u8 (n : Int)) : (execOp a.eval o).run Tryz.prog W = .ok (.value (.int .i64 (n : Int))) W := by
  unfold execOp
  simp only [ho, hx]
  go_simp
  rw [IntKind.wrap_i64]
  omega
theorem build_two (x y : Int) (W : World) : (Instr.buildSlice 22 2 #[(0, .int .u8 x), (1, .int .u8 y)]).run Tryz.prog W = .ok (.slice (some ⟨W.heap.size, 0, none⟩) 2 2) (W.alloc (.cells #[.int .u8 x, .int .u8 y] 5)) := by kernel_rfl
theorem exec_build2 {P : Program} {a : Act} {o : Oper} {t : TypeId} {x y : Operand} {u v r : Value} {W W' : World} (ho : o.op = .buildSlice t 2 #[(0, x), (1, y)]) (hx : a.eval x = u) (hy : a.eval y = v)
    (h : (Instr.buildSlice t 2 #[(0, u), (1, v)]).run P W = .ok r W') : (execOp a.eval o).run P W = .ok (.value r) W' := by
  unfold execOp
  simp only [ho, List.map_toArray, List.map_cons, List.map_nil, hx, hy, h, Sem.run_bind, Sem.run_pure, Result.andThen_ok]
theorem unpack_len (ch : List UInt8) : ∀ bs : List UInt8, (unpack ch bs).length = 2 * bs.length
  | [] => rfl
  | x :: r => by
    have := unpack_len ch r
    simp only [unpack, List.length_cons]
    omega
theorem unpack_snoc (ch : List UInt8) : ∀ (k : Nat) (bs : List UInt8), k < bs.length → unpack ch (bs.take (k + 1)) = unpack ch (bs.take k) ++ [ch.getD ((bs.getD k 0).toNat / 16) 0, ch.getD ((bs.getD k 0).toNat % 16) 0]
  | 0, x :: r, _ => by simp [unpack]
  | k + 1, x :: r, h => by
    have ih := unpack_snoc ch k r (by simpa using h)
    simp only [List.take_succ_cons, unpack, List.cons_append, List.getD_cons_succ]
    rw [ih]
  | _, [], h => by simp at h
def okB (ch : List UInt8) (x : UInt8) : Prop := x.toNat / 16 < ch.length ∧ x.toNat % 16 < ch.length
theorem packOk_of {ch bs : List UInt8} (h : ∀ x ∈ bs, okB ch x) : packOk ch bs = true := by
  unfold packOk
  rw [List.all_eq_true]
  intro x hx
  have := h x hx
  simp only [Bool.and_eq_true, decide_eq_true_eq]
  exact this
theorem packOk_not {ch bs : List UInt8} {x : UInt8} (hx : x ∈ bs) (h : ¬ okB ch x) : packOk ch bs = false := by
  rw [Bool.eq_false_iff]
  intro hp
  have := List.all_eq_true.1 hp x hx
  simp only [Bool.and_eq_true, decide_eq_true_eq] at this
  exact h this
theorem slice_end (g L c d : Nat) (h0 : d < L) (hc : L ≤ c) (W : World) : (Instr.sliceAt 22 (.slice (some ⟨g, 0, none⟩) L c) (some (.int .i64 (d : Int))) none none).run Tryz.prog W = .ok (.slice (some ⟨g, d, none⟩) (L - d) (c - d)) W := by
  have hi : ∃ i, Tryz.prog.info? 5 = some i ∧ i.size = 1 := by
    have h := byteInfo
    cases hq : Tryz.prog.info? 5 with
    | none => rw [hq] at h; cases h
    | some i => exact ⟨i, rfl, by rw [hq] at h; simp at h; exact h.2.1⟩
  obtain ⟨i, hi1, hi2⟩ := hi
  have e1 : (⟨g, 0, none⟩ : Addr).add d = ⟨g, d, none⟩ := by rw [add_nat, Nat.zero_add]
  have b1 : (0 : Int) ≤ (d : Int) ∧ (d : Int) ≤ (L : Int) := ⟨by omega, by omega⟩
  have hne : c ≠ d := by omega
  have hu := Tryz.underlying22
  simp [Instr.sliceAt, Instr.slice, Instr.sliceBounds, Instr.sliceBound, asIntOf, run_underlying hu, sizeOf, typeInfo, hi1, hi2, b1, hne, e1]
  intro h
  omega
theorem own_slice {W : World} {B g L c d : Nat} {xs : List UInt8} (h : Own W B 5 (.slice (some ⟨g, 0, none⟩) L c) xs) (hL : xs.length = L) (hm : L ≤ 100000) : Bs W (some ⟨g, d, none⟩) (L - d) (xs.drop d) := by
  refine ⟨by rw [List.length_drop, hL], by unfold maxLen; omega, fun hp => ⟨g, d, rfl, fun i hi => ?_⟩⟩
  have hc := World.ownsRow.cells (g := g) h rfl (d + i) _ (bcs_at xs (d + i) (by omega))
  rw [add_nat, Nat.zero_add] at hc
  rw [hc, List.getD_eq_getElem?_getD, List.getD_eq_getElem?_getD, List.getElem?_drop]
def CsS (c : Nat) (ch : List UInt8) (W : World) : Prop := Blk W c 9 #[strV ch]
set_option maxRecDepth 20000 in
set_option maxHeartbeats 2000000 in
theorem ptake_walk {w : World} {c n m cap : Nat} {ch bs : List UInt8} {A : Option Addr} (hc : Blk w c 9 #[strV ch]) (hb : Bs w A m bs) (hm : m = (n + 1) / 2) (hn : n ≤ 1000) (hn1 : 1 ≤ n) (hch : ch.length ≤ 1000) :
    Calls Tryz.prog 75 #[.slice A m cap, .int .i64 (n : Int), ptrTo c] w fun e w' => e = .returned (optV (unpacked ch bs n)) ∧ Turn nowhere w w' := by
  unfold ptrTo
  have HC := Lib.hid hc
  have HB := Lib.hid hb
  have HM := Lib.hid hm
  have HN := Lib.hid hn
  have HN1 := Lib.hid hn1
  have hm1 : m ≤ 501 := by omega
  have HM1 := Lib.hid hm1
  clear hc hb hm hn hn1
  go_enter Tryz.func75, Tryz.ntmps75
  go_upto_region 1 with fail
  refine wp_region_lit ?_
  refine wpList_run (v := .slice A m cap) rfl (exec_move rfl rfl) ?_
  simp only [Act.put, List.setIfInBounds_toArray, List.set_cons_zero, List.set_cons_succ]
  refine wpList_run (v := .int .i64 (m : Int)) (w' := w) rfl (by go_simp) ?_
  simp only [Act.put, List.setIfInBounds_toArray, List.set_cons_zero, List.set_cons_succ]
  refine wpList_run (v := .int .i64 ((2 * m : Nat) : Int)) (w' := w) rfl (by go_simp; rw [IntKind.wrap_i64]; omega) ?_
  simp only [Act.put, List.setIfInBounds_toArray, List.set_cons_zero, List.set_cons_succ]
  refine wpList_run (v := .slice (some ⟨w.heap.size, 0, none⟩) 0 (2 * m)) (w' := w.alloc (.cells (bcs (List.replicate (2 * m) 0)).toArray 5)) rfl (exec_makeV rfl rfl rfl (make_bytes 0 (2 * m) (by omega) (by omega) w)) ?_
  simp only [Act.put, List.setIfInBounds_toArray, List.set_cons_zero, List.set_cons_succ]
  have hg : Own (w.alloc (.cells (bcs (List.replicate (2 * m) 0)).toArray 5)) w.heap.size 5 (.slice (some ⟨w.heap.size, 0, none⟩) 0 (2 * m)) [] := World.ownsRow_made w _ (2 * m) (Nat.le_refl _) (by unfold maxLen; omega) (by simp [bcs])
  have ht := (Turn.refl nowhere w).alloc (.cells (bcs (List.replicate (2 * m) 0)).toArray 5)
  generalize (w.alloc (.cells (bcs (List.replicate (2 * m) 0)).toArray 5)) = w1 at *
  have HG := Lib.hid hg
  have HT := Lib.hid ht
  have HBL := Lib.hid (show bs.length = m from HB.out.1)
  clear hg ht hm1
  go_wp2_with fail
  go_loopg [7, 18] m (fun gk v i wr => ∃ (k : Nat) (A' : Option Addr) (n' c' : Nat), k + gk = m ∧ i = .int .i64 (k : Int) ∧ v = .slice A' n' c' ∧ Own wr w.heap.size 5 (.slice A' n' c') (unpack ch (bs.take k)) ∧ Turn nowhere w wr ∧ ∀ x ∈ bs.take k, okB ch x)
  case atStart => exact ⟨0, _, _, _, by omega, rfl, rfl, by simpa [unpack] using HG.out, HT.out, fun x hx => by simp at hx⟩
  case round =>
    obtain ⟨k, A', n', c', hkl, rfl, rfl, hown, htr, hin⟩ := hrel
    have HKL := Lib.hid hkl
    have HO := Lib.hid hown
    have HTR := Lib.hid htr
    have HIN := Lib.hid hin
    clear hkl hown htr hin
    by_cases hlt : k < m
    · have y1 : (k : Int) < (m : Int) := by omega
      have y2 : (0 : Int) ≤ (k : Int) := by omega
      have y3 : (m : Int) ≤ 501 := by have := HM1.out; omega
      obtain ⟨h1, h2, h3⟩ := bs_turn HB.out HTR.out
      obtain ⟨b, off, rfl, hcell⟩ := h3 (by omega)
      have hcell := hcell k hlt
      have hkb : k < bs.length := by rw [HBL.out]; exact hlt
      have HKB := Lib.hid hkb
      have HLT := Lib.hid hlt
      have hmem : bs.getD k 0 ∈ bs := by
        rw [List.getD_eq_getElem?_getD, List.getElem?_eq_getElem hkb]
        exact List.getElem_mem _
      have HMEM := Lib.hid hmem
      have hus := unpack_snoc ch k bs hkb
      obtain ⟨x, hx⟩ : ∃ x, x = bs.getD k 0 := ⟨_, rfl⟩
      rw [← hx] at hcell hmem hus
      have HXK := Lib.hid hx
      have HUS := Lib.hid hus
      clear hlt h1 h2 h3 hkb hx hus
      go_upto_region 5 with fail
      clear hcell
      have x16 : x.toNat / 16 < 16 := by have := x.toNat_lt; omega
      have X16 := Lib.hid x16
      clear x16
      refine wp_region_lit ?_
      refine wpList_run (v := .int .u8 (x.toNat : Int)) rfl (exec_move rfl rfl) ?_
      simp only [Act.put, List.setIfInBounds_toArray, List.set_cons_zero, List.set_cons_succ]
      refine wpList_run (v := .int .u8 ((x.toNat / 16 : Nat) : Int)) (w' := wr) rfl (exec_shr4 x rfl rfl) ?_
      simp only [Act.put, List.setIfInBounds_toArray, List.set_cons_zero, List.set_cons_succ]
      refine wpList_run (v := .int .i64 ((x.toNat / 16 : Nat) : Int)) (w' := wr) rfl (exec_u8int _ (by have := X16.out; omega) rfl rfl) ?_
      simp only [Act.put, List.setIfInBounds_toArray, List.set_cons_zero, List.set_cons_succ]
      refine wpList_run (v := .int .u8 (x.toNat : Int)) rfl (exec_move rfl rfl) ?_
      simp only [Act.put, List.setIfInBounds_toArray, List.set_cons_zero, List.set_cons_succ]
      refine wpList_run (v := .int .u8 ((x.toNat % 16 : Nat) : Int)) (w' := wr) rfl (exec_and15 x rfl rfl) ?_
      simp only [Act.put, List.setIfInBounds_toArray, List.set_cons_zero, List.set_cons_succ]
      refine wpList_run (v := .int .i64 ((x.toNat % 16 : Nat) : Int)) (w' := wr) rfl (exec_u8int _ (by omega) rfl rfl) ?_
      simp only [Act.put, List.setIfInBounds_toArray, List.set_cons_zero, List.set_cons_succ]
      have cc : wr.cell? ⟨c, 0, none⟩ = some (.string ⟨ch.toArray⟩) := (HC.out.turn HTR.out (fun e => e)).cell 0
      have hsz := str_size ch
      have hup : unpack ch (bs.take (k + 1)) = unpack ch (bs.take k) ++ [ch.getD (x.toNat / 16) 0, ch.getD (x.toNat % 16) 0] := HUS.out
      obtain ⟨hi, hhi⟩ : ∃ hi, hi = x.toNat / 16 := ⟨_, rfl⟩
      obtain ⟨lo, hlo⟩ : ∃ lo, lo = x.toNat % 16 := ⟨_, rfl⟩
      rw [← hhi, ← hlo] at hup ⊢
      have HUP := Lib.hid hup
      have HHI := Lib.hid hhi
      have HLO := Lib.hid hlo
      clear HUS X16 hup hhi hlo
      obtain ⟨s, hs⟩ : ∃ s : ByteArray, s = ⟨ch.toArray⟩ := ⟨_, rfl⟩
      rw [← hs] at cc hsz
      have HS := Lib.hid hs
      have HSZ := Lib.hid hsz
      clear hs hsz
      have z1 : (0 : Int) ≤ (hi : Int) := by omega
      have z2 : (0 : Int) ≤ (lo : Int) := by omega
      by_cases hgood : hi < s.size ∧ lo < s.size
      · have y5 : ¬ ((s.size : Int) ≤ (hi : Int)) := by omega
        have y6 : ¬ ((s.size : Int) ≤ (lo : Int)) := by omega
        have HGD := Lib.hid hgood
        clear hgood
        go_upto_region 8 with fail
        have hS0 : CsS c ch wr.drew := (HC.out.turn HTR.out (fun e => e)).drew
        have HZ := Lib.hid (show okB ch x from ⟨by rw [← HHI.out, ← HSZ.out]; exact HGD.out.1, by rw [← HLO.out, ← HSZ.out]; exact HGD.out.2⟩)
        have hgh : hi < ch.length := by rw [← HSZ.out]; exact HGD.out.1
        have hgl : lo < ch.length := by rw [← HSZ.out]; exact HGD.out.2
        have HGH := Lib.hid hgh
        have HGL := Lib.hid hgl
        clear hgh hgl cc y5 y6 HGD HSZ HS
        refine wp_region_till (CsS c ch) 9 (by kernel_rfl) ?_
        refine till_pure (i := 0) (v := .slice A' n' c') rfl (by kernel_rfl) (by kernel_rfl) (fun _ _ _ h => h) (.inl ⟨by rfl, fun W hW => exec_move rfl rfl⟩) hS0 ?_
        simp only [Act.put, List.setIfInBounds_toArray, List.set_cons_zero, List.set_cons_succ]
        refine till_take (i := 1) (v := strV ch) rfl (by kernel_rfl) (by kernel_rfl) (fun _ _ _ h => h) (.inl ⟨by rfl, fun W hW => exec_load1 rfl rfl (by kernel_rfl) (Blk.cell hW 0)⟩) hS0 ?_
        simp only [Act.put, List.setIfInBounds_toArray, List.set_cons_zero, List.set_cons_succ]
        refine till_pure (i := 2) (v := .int .i64 (hi : Int)) rfl (by kernel_rfl) (by kernel_rfl) (fun _ _ _ h => h) (.inl ⟨by rfl, fun W hW => exec_move rfl rfl⟩) hS0 ?_
        simp only [Act.put, List.setIfInBounds_toArray, List.set_cons_zero, List.set_cons_succ]
        refine till_pure (i := 3) (v := .int .u8 ((ch.getD hi 0).toNat : Int)) rfl (by kernel_rfl) (by kernel_rfl) (fun _ _ _ h => h) (.inl ⟨by rfl, fun W hW => exec_sidx rfl rfl rfl HGH.out⟩) hS0 ?_
        simp only [Act.put, List.setIfInBounds_toArray, List.set_cons_zero, List.set_cons_succ]
        refine till_take (i := 4) (v := strV ch) rfl (by kernel_rfl) (by kernel_rfl) (fun _ _ _ h => h) (.inl ⟨by rfl, fun W hW => exec_load1 rfl rfl (by kernel_rfl) (Blk.cell hW 0)⟩) hS0 ?_
        simp only [Act.put, List.setIfInBounds_toArray, List.set_cons_zero, List.set_cons_succ]
        refine till_pure (i := 5) (v := .int .i64 (lo : Int)) rfl (by kernel_rfl) (by kernel_rfl) (fun _ _ _ h => h) (.inl ⟨by rfl, fun W hW => exec_move rfl rfl⟩) hS0 ?_
        simp only [Act.put, List.setIfInBounds_toArray, List.set_cons_zero, List.set_cons_succ]
        refine till_pure (i := 6) (v := .int .u8 ((ch.getD lo 0).toNat : Int)) rfl (by kernel_rfl) (by kernel_rfl) (fun _ _ _ h => h) (.inl ⟨by rfl, fun W hW => exec_sidx rfl rfl rfl HGL.out⟩) hS0 ?_
        simp only [Act.put, List.setIfInBounds_toArray, List.set_cons_zero, List.set_cons_succ]
        refine till_only (i := 7) (by kernel_rfl) rfl rfl ?_
        refine wp_run (exec_build2 rfl rfl rfl (build_two _ _ _)) ?_
        refine ⟨fun _ => hS0.alloc _, ?_⟩
        simp only [Act.put, List.setIfInBounds_toArray, List.set_cons_zero, List.set_cons_succ]
        obtain ⟨A6, c6, w6, hrun, hown6, hext6⟩ := append_news (m := 2) (c := 2) (w := wr.drew) HO.out.drew (Nat.le_trans HTR.out.size (Nat.le_refl _)) [ch.getD hi 0, ch.getD lo 0] (by
          rw [unpack_len, List.length_take]
          have := HM1.out
          have := HLT.out
          simp
          omega) rfl
        refine till_only (i := 8) (by kernel_rfl) rfl rfl ?_
        refine wp_run (v := .slice A6 ((unpack ch (bs.take k)).length + 2) c6) (w' := w6) (exec_append rfl rfl rfl hrun) ?_
        refine ⟨fun _ => Blk.ext hS0 hext6 (row_ne HO.out hS0 (by decide)), ?_⟩
        simp only [Act.put, List.setIfInBounds_toArray, List.set_cons_zero, List.set_cons_succ]
        have HO6 := Lib.hid hown6
        have HE6 := Lib.hid hext6
        clear hrun hown6 hext6 hS0
        generalize ((unpack ch (bs.take k)).length + 2) = n6 at *
        refine till_tail 9 rfl (by kernel_rfl) ?_
        go_wp2_with fail
        refine NoPanic.normal ?_
        go_wp2_with fail
        go_roundg (gk - 1)
        case measure => have := HKL.out; have := HLT.out; omega
        case rel =>
          refine ⟨k + 1, A6, n6, c6, by have := HKL.out; have := HLT.out; omega, by go_num, rfl, ?_, ?_, ?_⟩
          · rw [HUP.out]
            exact HO6.out
          · refine (HTR.out.drew).trans HE6.out.tr fun j hj e => ?_
            have := (HO.out.lt j e.symm).1
            omega
          · intro y hy
            rw [List.take_add_one, List.mem_append] at hy
            rcases hy with hy | hy
            · exact HIN.out y hy
            · rw [List.getElem?_eq_getElem HKB.out] at hy
              have hxk := HXK.out
              rw [List.getD_eq_getElem?_getD, List.getElem?_eq_getElem HKB.out] at hxk
              simp at hy hxk
              rw [hy, ← hxk]
              exact HZ.out
      · have HNO := Lib.hid (show unpacked ch bs n = none from by
          unfold unpacked
          rw [packOk_not (x := x) (by rw [HXK.out]; exact HMEM.out) (fun h => hgood ⟨by rw [HSZ.out, HHI.out]; exact h.1, by rw [HSZ.out, HLO.out]; exact h.2⟩)]
          rfl)
        by_cases hh : hi < s.size
        · have y5 : ¬ ((s.size : Int) ≤ (hi : Int)) := by omega
          have y6 : (s.size : Int) ≤ (lo : Int) := by omega
          clear hgood hh
          go_wp2_with fail
          go_ret2
          rw [HNO.out]
          exact ⟨rfl, HTR.out⟩
        · have y5 : (s.size : Int) ≤ (hi : Int) := by omega
          clear hgood hh
          go_wp2_with fail
          go_ret2
          rw [HNO.out]
          exact ⟨rfl, HTR.out⟩
    · have hke : k = m := by have := HKL.out; omega
      have y1 : ¬ ((k : Int) < (m : Int)) := by omega
      clear hlt
      have hown := HO.out
      have hin := HIN.out
      rw [List.take_of_length_le (by rw [HBL.out, hke]; exact Nat.le_refl _)] at hown hin
      have hpk := packOk_of hin
      have hul := unpack_len ch bs
      rw [HBL.out] at hul
      obtain ⟨A'', n'', c'', hform, hbs, hncap, _⟩ := hown.form
      injection hform with hf1 hf2 hf3
      subst hf1 hf2 hf3
      have hnl : n' = 2 * m := hbs.1.symm.trans hul
      subst hnl
      obtain ⟨g, off, rfl, hcells⟩ := hbs.2.2 (by have := HM.out; have := HN1.out; omega)
      have hoff : off = 0 := by
        rcases hown.2 with ⟨h, _⟩ | ⟨g', cap', cur, h, _⟩
        · cases h
        · injection h with h _ _
          injection h with h
          injection h
      subst hoff
      have hc0 := hcells 0 (by have := HM.out; have := HN1.out; omega)
      rw [Nat.zero_add] at hc0
      have HCAP := Lib.hid hncap
      have HOO := Lib.hid hown
      have HUL := Lib.hid hul
      have HPK := Lib.hid hpk
      have HKE := Lib.hid hke
      clear hcells hbs hin hown hul hpk hncap hke
      have hunp : unpacked ch bs n = if n % 2 = 1 ∧ (unpack ch bs).getD 0 0 ≠ 48 then none else some ((unpack ch bs).drop ((unpack ch bs).length - n)) := by
        unfold unpacked
        rw [HPK.out]
        rfl
      rw [HUL.out] at hunp
      generalize (unpack ch bs).getD 0 0 = z0 at *
      have HU := Lib.hid hunp
      clear hunp
      have hnm : n ≤ 2 * m := by have := HM.out; omega
      have HNM := Lib.hid hnm
      clear hnm
      have y7 : (0 : Int) < 2 * (m : Int) := by have := HM.out; have := HN1.out; omega
      by_cases hodd : n % 2 = 1
      · by_cases hz : z0 = 48
        · have hu := HU.out
          rw [if_neg (by intro h; exact h.2 hz)] at hu
          have HU2 := Lib.hid hu
          have t1 : Int.tmod (n : Int) 2 = 1 := tmod_one hodd
          have hz0 : (z0.toNat : Int) = 48 := by rw [hz]; rfl
          clear hu HU
          rw [hz0] at hc0
          clear hz0 hz hodd
          go_upto_region 12 with fail
          clear hc0
          refine wp_region_lit ?_
          refine wpList_run (v := .slice (some ⟨g, 0, none⟩) (2 * m) c') rfl (exec_move rfl rfl) ?_
          simp only [Act.put, List.setIfInBounds_toArray, List.set_cons_zero, List.set_cons_succ]
          refine wpList_run (v := .slice (some ⟨g, 0, none⟩) (2 * m) c') rfl (exec_move rfl rfl) ?_
          simp only [Act.put, List.setIfInBounds_toArray, List.set_cons_zero, List.set_cons_succ]
          refine wpList_run (v := .int .i64 ((2 * m : Nat) : Int)) (w' := wr) rfl (by go_simp) ?_
          simp only [Act.put, List.setIfInBounds_toArray, List.set_cons_zero, List.set_cons_succ]
          refine wpList_run (v := .int .i64 (n : Int)) rfl (exec_move rfl rfl) ?_
          simp only [Act.put, List.setIfInBounds_toArray, List.set_cons_zero, List.set_cons_succ]
          refine wpList_run (v := .int .i64 ((2 * m - n : Nat) : Int)) (w' := wr) rfl (exec_sub rfl rfl rfl HNM.out (by have := HM1.out; omega)) ?_
          simp only [Act.put, List.setIfInBounds_toArray, List.set_cons_zero, List.set_cons_succ]
          refine wpList_run (v := .slice (some ⟨g, 2 * m - n, none⟩) (2 * m - (2 * m - n)) (c' - (2 * m - n))) rfl (exec_slice rfl rfl rfl rfl rfl (slice_end g (2 * m) c' (2 * m - n) (by have := HN1.out; have := HNM.out; omega) HCAP.out wr)) ?_
          simp only [Act.put, List.setIfInBounds_toArray, List.set_cons_zero, List.set_cons_succ]
          refine wpList_run (v := strV ((unpack ch bs).drop (2 * m - n))) (w' := wr) rfl (exec_strBs rfl rfl (own_slice HOO.out HUL.out (by have := HM1.out; omega))) ?_
          simp only [Act.put, List.setIfInBounds_toArray, List.set_cons_zero, List.set_cons_succ]
          go_wp2_with fail
          go_ret2
          rw [HU2.out]
          exact ⟨rfl, HTR.out⟩
        · have hu := HU.out
          rw [if_pos ⟨hodd, hz⟩] at hu
          have t1 : Int.tmod (n : Int) 2 = 1 := tmod_one hodd
          have hz0 : ((z0.toNat : Int) == 48) = false := by
            simp only [beq_eq_false_iff_ne, ne_eq]
            intro h
            exact hz (UInt8.toNat_inj.1 (by rw [show (48 : UInt8).toNat = 48 from rfl]; omega))
          have HU2 := Lib.hid hu
          clear hu HU hz hodd
          go_wp2_with fail
          go_ret2
          rw [HU2.out]
          exact ⟨rfl, HTR.out⟩
      · have hu := HU.out
        rw [if_neg (by intro h; exact hodd h.1)] at hu
        have HU2 := Lib.hid hu
        have t1 : Int.tmod (n : Int) 2 = 0 := tmod_nil hodd
        clear hu HU hodd
        go_upto_region 12 with fail
        clear hc0
        refine wp_region_lit ?_
        refine wpList_run (v := .slice (some ⟨g, 0, none⟩) (2 * m) c') rfl (exec_move rfl rfl) ?_
        simp only [Act.put, List.setIfInBounds_toArray, List.set_cons_zero, List.set_cons_succ]
        refine wpList_run (v := .slice (some ⟨g, 0, none⟩) (2 * m) c') rfl (exec_move rfl rfl) ?_
        simp only [Act.put, List.setIfInBounds_toArray, List.set_cons_zero, List.set_cons_succ]
        refine wpList_run (v := .int .i64 ((2 * m : Nat) : Int)) (w' := wr) rfl (by go_simp) ?_
        simp only [Act.put, List.setIfInBounds_toArray, List.set_cons_zero, List.set_cons_succ]
        refine wpList_run (v := .int .i64 (n : Int)) rfl (exec_move rfl rfl) ?_
        simp only [Act.put, List.setIfInBounds_toArray, List.set_cons_zero, List.set_cons_succ]
        refine wpList_run (v := .int .i64 ((2 * m - n : Nat) : Int)) (w' := wr) rfl (exec_sub rfl rfl rfl HNM.out (by have := HM1.out; omega)) ?_
        simp only [Act.put, List.setIfInBounds_toArray, List.set_cons_zero, List.set_cons_succ]
        refine wpList_run (v := .slice (some ⟨g, 2 * m - n, none⟩) (2 * m - (2 * m - n)) (c' - (2 * m - n))) rfl (exec_slice rfl rfl rfl rfl rfl (slice_end g (2 * m) c' (2 * m - n) (by have := HN1.out; have := HNM.out; omega) HCAP.out wr)) ?_
        simp only [Act.put, List.setIfInBounds_toArray, List.set_cons_zero, List.set_cons_succ]
        refine wpList_run (v := strV ((unpack ch bs).drop (2 * m - n))) (w' := wr) rfl (exec_strBs rfl rfl (own_slice HOO.out HUL.out (by have := HM1.out; omega))) ?_
        simp only [Act.put, List.setIfInBounds_toArray, List.set_cons_zero, List.set_cons_succ]
        go_wp2_with fail
        go_ret2
        rw [HU2.out]
        exact ⟨rfl, HTR.out⟩
end Go.Proofs.YtgdlidjjogoiaaaGreatDoor
