/-
  field's codes: reading, a byte for a character. Condition: there are as many bytes as characters.
-/
import Derived.Test.YtgdlidjjogoiaaaGreatDoorFdE
namespace Go.Proofs.YtgdlidjjogoiaaaGreatDoor
open Go.RowKit
open Fdd
set_option linter.unusedVariables false
theorem bs_turn {w w' : World} {A : Option Addr} {n : Nat} {bs : List UInt8} (h : Bs w A n bs) (ht : Turn nowhere w w') : Bs w' A n bs := by
  obtain ⟨h1, h2, h3⟩ := h
  refine ⟨h1, h2, fun hp => ?_⟩
  obtain ⟨b, off, e, hc⟩ := h3 hp
  exact ⟨b, off, e, fun i hi => by rw [ht.cell (World.block_lt_of_cell? _ _ (hc i hi)) (fun e => e)]; exact hc i hi⟩
theorem exec_makeV {P : Program} {a : Act} {o : Oper} {t : TypeId} {x y : Operand} {u u' v : Value} {W W' : World} (ho : o.op = .makeSlice t x y) (hx : a.eval x = u) (hy : a.eval y = u') (h : (Instr.makeSlice t u u').run P W = .ok v W') : (execOp a.eval o).run P W = .ok (.value v) W' := by
  unfold execOp
  simp only [ho, hx, hy, h, Sem.run_bind, Sem.run_pure, Result.andThen_ok]
theorem make_bytes (n m : Nat) (hn : n ≤ m) (hm : m ≤ 100000) (w : World) : (Instr.makeSlice 22 (.int .i64 (n : Int)) (.int .i64 (m : Int))).run Tryz.prog w = .ok (.slice (some ⟨w.heap.size, 0, none⟩) n m) (w.alloc (.cells (bcs (List.replicate m 0)).toArray 5)) := by
  obtain ⟨j0, hj0, hjz, hj1, hj2⟩ := info_parts byteInfo
  have h := run_makeSlice (P := Tryz.prog) w 22 5 j0 _ Tryz.underlying22 hj0 hjz .i64 .i64 (n : Int) (m : Int) (by omega) (by omega) (by rw [hj1]; omega) (by rw [hj2]; omega) (by omega)
  rw [h, hj1, Int.toNat_natCast, Int.toNat_natCast, Nat.mul_one, madeBytes]
  rfl
def fillL (f : UInt8 → UInt8) (bs : List UInt8) (k : Nat) : List UInt8 := (bs.take k).map f ++ List.replicate (bs.length - k) 0
theorem fill_zero (f : UInt8 → UInt8) (bs : List UInt8) : fillL f bs 0 = List.replicate bs.length 0 := by simp [fillL]
theorem fill_all (f : UInt8 → UInt8) (bs : List UInt8) : fillL f bs bs.length = bs.map f := by simp [fillL]
theorem fill_len (f : UInt8 → UInt8) (bs : List UInt8) (k : Nat) (h : k ≤ bs.length) : (fillL f bs k).length = bs.length := by simp [fillL]; omega
theorem fill_set (f : UInt8 → UInt8) (bs : List UInt8) (k : Nat) (h : k < bs.length) : (fillL f bs k).set k (f (bs.getD k 0)) = fillL f bs (k + 1) := by
  apply List.ext_getElem?
  intro j
  unfold fillL
  rw [List.getElem?_set]
  by_cases hj : k = j
  · subst hj
    rw [if_pos rfl, if_pos (by simp; omega), List.getElem?_append_left (by simp; omega), List.getElem?_map, List.getElem?_take, if_pos (by omega), List.getElem?_eq_getElem h, List.getD_eq_getElem?_getD, List.getElem?_eq_getElem h]
    rfl
  · rw [if_neg hj]
    by_cases h1 : j < k
    · rw [List.getElem?_append_left (by simp; omega), List.getElem?_append_left (by simp; omega)]
      simp [h1, show j < k + 1 from by omega]
    · rw [List.getElem?_append_right (by simp; omega), List.getElem?_append_right (by simp; omega)]
      simp only [List.length_map, List.length_take, List.getElem?_replicate]
      have e1 : min k bs.length = k := by omega
      have e2 : min (k + 1) bs.length = k + 1 := by omega
      rw [e1, e2]
      by_cases h2 : j < bs.length
      · rw [if_pos (by omega), if_pos (by omega)]
      · rw [if_neg (by omega), if_neg (by omega)]
theorem bcs_set (l : List UInt8) (i : Nat) (x : UInt8) : (bcs l).toArray.setIfInBounds i (.int .u8 (x.toNat : Int)) = (bcs (l.set i x)).toArray := by
  unfold bcs
  rw [List.setIfInBounds_toArray, List.map_set]
theorem index_cases (l : List UInt8) (x : UInt8) : (x ∈ l ∧ Lib.indexByte l x = (l.idxOf x : Int) ∧ l.idxOf x < l.length) ∨ (x ∉ l ∧ Lib.indexByte l x = -1) := by
  by_cases h : x ∈ l
  · exact .inl ⟨h, index_mem l x h, idx_lt h⟩
  · exact .inr ⟨h, index_not l x h⟩
def sdec (st ch bs : List UInt8) : Option (List UInt8) := if onlyOf bs st = true then some (bs.map (one st ch)) else none
def optV (o : Option (List UInt8)) : Value := .tuple #[strV (o.getD []), .bool o.isSome]
set_option maxRecDepth 20000 in
set_option maxHeartbeats 1000000 in
theorem stake_walk {w : World} {s c n cap : Nat} {st ch bs : List UInt8} {A : Option Addr} (hs : Blk w s 9 #[strV st]) (hc : Blk w c 9 #[strV ch]) (hl : st.length = ch.length) (hb : Bs w A n bs) (hn : n ≤ 1000) (hch : ch.length ≤ 1000) :
    Calls Tryz.prog 78 #[.slice A n cap, .int .i64 (n : Int), ptrTo s, ptrTo c] w fun e w' => e = .returned (optV (sdec st ch bs)) ∧ Turn nowhere w w' := by
  unfold ptrTo
  have HS := Lib.hid hs
  have HC := Lib.hid hc
  have HL := Lib.hid hl
  have HB := Lib.hid hb
  have HN := Lib.hid hn
  have HCH := Lib.hid hch
  clear hs hc hl hb hn hch
  go_enter Tryz.func78, Tryz.ntmps78
  go_upto_region 1 with fail
  refine wp_region_lit ?_
  refine wpList_run (v := .int .i64 (n : Int)) rfl (exec_move rfl rfl) ?_
  simp only [Act.put, List.setIfInBounds_toArray, List.set_cons_zero, List.set_cons_succ]
  refine wpList_run (v := .slice (some ⟨w.heap.size, 0, none⟩) n n) (w' := w.alloc (.cells (bcs (List.replicate n 0)).toArray 5)) rfl (exec_makeV rfl rfl rfl (make_bytes n n (Nat.le_refl _) (by have := HN.out; omega) w)) ?_
  simp only [Act.put, List.setIfInBounds_toArray, List.set_cons_zero, List.set_cons_succ]
  have hg := Blk.new w 5 (bcs (List.replicate n 0)).toArray
  have ht := (Turn.refl nowhere w).alloc (.cells (bcs (List.replicate n 0)).toArray 5)
  generalize (w.alloc (.cells (bcs (List.replicate n 0)).toArray 5)) = w1 at *
  obtain ⟨g, hgg⟩ : ∃ g, g = w.heap.size := ⟨_, rfl⟩
  rw [← hgg] at hg ⊢
  have HGG := Lib.hid hgg
  have hbl : bs.length = n := HB.out.1
  rw [← hbl, ← fill_zero (one st ch)] at hg
  have HG := Lib.hid hg
  have HT := Lib.hid ht
  have HBL := Lib.hid hbl
  clear hg ht hgg hbl
  go_wp2_with fail
  go_loopg [16] n (fun gk i wr => ∃ k : Nat, k + gk = n ∧ i = .int .i64 (k : Int) ∧ Blk wr g 5 (bcs (fillL (one st ch) bs k)).toArray ∧ Turn nowhere w wr ∧ ∀ x ∈ bs.take k, x ∈ st)
  case atStart => exact ⟨0, by omega, rfl, HG.out, HT.out, fun x hx => by simp at hx⟩
  case round =>
    obtain ⟨k, hkl, rfl, hblk, htr, hin⟩ := hrel
    have HKL := Lib.hid hkl
    have HBLK := Lib.hid hblk
    have HTR := Lib.hid htr
    have HIN := Lib.hid hin
    clear hkl hblk htr hin
    by_cases hlt : k < n
    · have y1 : (k : Int) < (n : Int) := by omega
      have y2 : (0 : Int) ≤ (k : Int) := by omega
      have y3 : (n : Int) ≤ 1000 := by have := HN.out; omega
      obtain ⟨h1, h2, h3⟩ := bs_turn HB.out HTR.out
      obtain ⟨b, off, rfl, hcell⟩ := h3 (by omega)
      have hcell := hcell k hlt
      have hkb : k < bs.length := by rw [HBL.out]; exact hlt
      have HKB := Lib.hid hkb
      have HLT := Lib.hid hlt
      have hmem : bs.getD k 0 ∈ bs := by
        rw [List.getD_eq_getElem?_getD, List.getElem?_eq_getElem hkb]
        exact List.getElem_mem _
      have HMEM := Lib.hid hmem
      have HX := Lib.hid (show bs.getD k 0 = bs.getD k 0 from rfl)
      have cs : wr.cell? ⟨s, 0, none⟩ = some (strV st) := (HS.out.turn HTR.out (fun e => e)).cell 0
      have cc : wr.cell? ⟨c, 0, none⟩ = some (strV ch) := (HC.out.turn HTR.out (fun e => e)).cell 0
      obtain ⟨x, hx⟩ : ∃ x, x = bs.getD k 0 := ⟨_, rfl⟩
      rw [← hx] at hcell
      have HXK := Lib.hid hx
      have hiw := index_walk st x
      clear hlt h1 h2 h3 hkb hmem hx
      rcases index_cases st x with ⟨hm, he, hi⟩ | ⟨hm, he⟩
      · have hone : one st ch x = ch.getD (st.idxOf x) 0 := rfl
        rw [he] at hiw
        generalize st.idxOf x = ix at *
        have HONE := Lib.hid hone
        have HM := Lib.hid hm
        have HIX := Lib.hid hi
        have y5 : ¬ ((ix : Int) < 0) := by omega
        clear hone hm he hi
        go_upto_region 8 with (go_at_call 72; refine (hiw _).mono ?_; rintro e w5 ⟨rfl, rfl⟩)
        refine wp_region_lit ?_
        refine wpList_run (v := .slice (some ⟨g, 0, none⟩) n n) rfl (exec_move rfl rfl) ?_
        simp only [Act.put, List.setIfInBounds_toArray, List.set_cons_zero, List.set_cons_succ]
        refine wpList_run (v := .int .i64 (k : Int)) rfl (exec_move rfl rfl) ?_
        simp only [Act.put, List.setIfInBounds_toArray, List.set_cons_zero, List.set_cons_succ]
        refine wpList_run (v := strV ch) rfl (exec_load1 rfl rfl (by kernel_rfl) cc) ?_
        simp only [Act.put, List.setIfInBounds_toArray, List.set_cons_zero, List.set_cons_succ]
        refine wpList_run (v := .int .i64 (ix : Int)) rfl (exec_move rfl rfl) ?_
        simp only [Act.put, List.setIfInBounds_toArray, List.set_cons_zero, List.set_cons_succ]
        refine wpList_run (v := .int .u8 ((one st ch x).toNat : Int)) rfl (by rw [HONE.out]; exact exec_sidx rfl rfl rfl (by rw [← HL.out]; exact HIX.out)) ?_
        simp only [Act.put, List.setIfInBounds_toArray, List.set_cons_zero, List.set_cons_succ]
        have g0 : ∃ u, w5.cell? ⟨g, k, none⟩ = some u := ⟨_, (HBLK.out.cell k).trans (Array.getElem?_eq_getElem (by have := HKB.out; rw [List.size_toArray, bcs_length, fill_len _ _ _ (by omega)]; exact this))⟩
        obtain ⟨u, g0⟩ := g0
        have g1 := HBLK.out.frozen k
        generalize hz : one st ch x = z at *
        have HZ := Lib.hid hz
        clear hz
        go_wp2_with fail
        go_roundg (gk - 1)
        case measure => have := HKL.out; have := HLT.out; omega
        case rel =>
          refine ⟨k + 1, by have := HKL.out; have := HLT.out; omega, by go_num, ?_, ?_, ?_⟩
          · have h := HBLK.out.set_ k (.int .u8 (z.toNat : Int))
            rw [bcs_set, ← HZ.out, HXK.out, fill_set (one st ch) bs k HKB.out] at h
            rw [HXK.out] at HZ
            rw [← HZ.out]
            exact h
          · exact HTR.out.setCell (p := ⟨g, k, none⟩) (fun hb => by have := HGG.out; have hb' : g < w.heap.size := hb; omega) _
          · intro y hy
            rw [List.take_add_one, List.mem_append] at hy
            rcases hy with hy | hy
            · exact HIN.out y hy
            · rw [List.getElem?_eq_getElem HKB.out] at hy
              have hxk := HXK.out
              rw [List.getD_eq_getElem?_getD, List.getElem?_eq_getElem HKB.out] at hxk
              simp at hy hxk
              rw [hy, ← hxk]
              exact HM.out
      · rw [he] at hiw
        have HM := Lib.hid hm
        have HNO := Lib.hid (show sdec st ch bs = none from by
          unfold sdec
          rw [if_neg]
          intro h
          exact hm (by rw [HXK.out]; exact onlyOf_mem h HMEM.out))
        clear hm he
        go_wp2_with (go_at_call 72; refine (hiw _).mono ?_; rintro e w5 ⟨rfl, rfl⟩)
        go_ret2
        rw [HNO.out]
        exact ⟨rfl, HTR.out⟩
    · have hke : k = n := by have := HKL.out; omega
      have y1 : ¬ ((k : Int) < (n : Int)) := by omega
      subst hke
      have HALL := Lib.hid (show sdec st ch bs = some (bs.map (one st ch)) from by
        unfold sdec
        rw [if_pos]
        unfold onlyOf
        rw [List.all_eq_true]
        intro x hx
        have := HIN.out x (by rw [List.take_of_length_le (by rw [HBL.out]; exact Nat.le_refl _)]; exact hx)
        simpa using this)
      have hblk := HBLK.out
      rw [← HBL.out, fill_all] at hblk
      have hbsA : Bs wr (some ⟨g, 0, none⟩) k (bs.map (one st ch)) := (Row.bs (n := k) (by exact hblk) (by rw [List.length_map, HBL.out]; exact Nat.le_refl _) (by have := HN.out; unfold maxLen; omega)) |> fun h => by rwa [List.take_of_length_le (by rw [List.length_map, HBL.out]; exact Nat.le_refl _)] at h
      clear hlt hblk
      go_upto_region 10 with fail
      refine wp_region_lit ?_
      refine wpList_run (v := .slice (some ⟨g, 0, none⟩) k k) rfl (exec_move rfl rfl) ?_
      simp only [Act.put, List.setIfInBounds_toArray, List.set_cons_zero, List.set_cons_succ]
      refine wpList_run (v := strV (bs.map (one st ch))) (w' := wr) rfl (exec_strBs rfl rfl hbsA) ?_
      simp only [Act.put, List.setIfInBounds_toArray, List.set_cons_zero, List.set_cons_succ]
      go_wp2_with fail
      go_ret2
      rw [HALL.out]
      exact ⟨rfl, HTR.out⟩
end Go.Proofs.YtgdlidjjogoiaaaGreatDoor
