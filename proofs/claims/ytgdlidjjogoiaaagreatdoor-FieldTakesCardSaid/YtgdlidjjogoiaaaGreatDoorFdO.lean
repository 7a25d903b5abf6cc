/-
  field's take. Conditions: the parts are good.
-/
import Derived.Test.YtgdlidjjogoiaaaGreatDoorFdM
namespace Go.Proofs.YtgdlidjjogoiaaaGreatDoor
open Go.RowKit
open Fdd
set_option linter.unusedVariables false
theorem byte_size : ∃ i, Tryz.prog.info? 5 = some i ∧ i.size = 1 := by
  have h := byteInfo
  cases hq : Tryz.prog.info? 5 with
  | none => rw [hq] at h; cases h
  | some i => exact ⟨i, rfl, by rw [hq] at h; simp at h; exact h.2.1⟩
theorem slice_to_any (A : Option Addr) (n c e : Nat) (h0 : e ≤ n) (hc : n ≤ c) (W : World) : (Instr.sliceAt 22 (.slice A n c) none (some (.int .i64 (e : Int))) none).run Tryz.prog W = .ok (.slice A e c) W := by
  obtain ⟨i, hi1, hi2⟩ := byte_size
  have b1 : (0 : Int) ≤ (e : Int) ∧ (e : Int) ≤ (c : Int) := ⟨by omega, by omega⟩
  have hu := Tryz.underlying22
  simp [Instr.sliceAt, Instr.slice, Instr.sliceBounds, Instr.sliceBound, asIntOf, run_underlying hu, sizeOf, typeInfo, hi1, b1]
  rw [if_pos (show e ≤ c by omega)]
  cases A <;> simp [Addr.add]
def fromA (A : Option Addr) (c d : Nat) : Option Addr := if c = d then A else A.map (·.add (d * 1))
theorem slice_from_any (A : Option Addr) (n c d : Nat) (h0 : d ≤ n) (hc : n ≤ c) (W : World) : (Instr.sliceAt 22 (.slice A n c) (some (.int .i64 (d : Int))) none none).run Tryz.prog W = .ok (.slice (fromA A c d) (n - d) (c - d)) W := by
  obtain ⟨i, hi1, hi2⟩ := byte_size
  have b1 : (0 : Int) ≤ (d : Int) ∧ (d : Int) ≤ (n : Int) := ⟨by omega, by omega⟩
  have hu := Tryz.underlying22
  simp [Instr.sliceAt, Instr.slice, Instr.sliceBounds, Instr.sliceBound, asIntOf, run_underlying hu, sizeOf, typeInfo, hi1, hi2, b1, fromA]
  intro h
  omega
theorem bs_to {W : World} {A : Option Addr} {n e : Nat} {b : List UInt8} (h : Bs W A n b) (he : e ≤ n) : Bs W A e (b.take e) := by
  obtain ⟨h1, h2, h3⟩ := h
  refine ⟨by rw [List.length_take]; omega, by omega, fun hp => ?_⟩
  obtain ⟨g, off, rfl, hc⟩ := h3 (by omega)
  refine ⟨g, off, rfl, fun i hi => ?_⟩
  rw [hc i (by omega), List.getD_eq_getElem?_getD, List.getD_eq_getElem?_getD, List.getElem?_take, if_pos hi]
theorem bs_from {W : World} {A : Option Addr} {n c d : Nat} {b : List UInt8} (h : Bs W A n b) (hd : d ≤ n) (hc : n ≤ c) : Bs W (fromA A c d) (n - d) (b.drop d) := by
  obtain ⟨h1, h2, h3⟩ := h
  refine ⟨by rw [List.length_drop]; omega, by omega, fun hp => ?_⟩
  obtain ⟨g, off, rfl, hcell⟩ := h3 (by omega)
  refine ⟨g, off + d, ?_, fun i hi => ?_⟩
  · unfold fromA
    rw [if_neg (by omega)]
    simp only [Option.map_some, Nat.mul_one]
    rw [add_nat]
  · rw [Nat.add_assoc, hcell (d + i) (by omega), List.getD_eq_getElem?_getD, List.getD_eq_getElem?_getD, List.getElem?_drop]
theorem sizeAll_cons (p : Pt) (r : List Pt) : sizeAll (p :: r) = p.size + sizeAll r := rfl
theorem code_size {w : World} {cv : Array Value} {p : Pt} (h : CodeAt w cv p) (hg : Gd p) : ∃ f c x y, cv = #[.func (.func f) #[] c, x, y] ∧ (f = 76 ∨ f = 73) ∧ c = #[] ∧
    ∀ W, Calls Tryz.prog f #[.int .i64 (p.n : Int)] W fun e w' => e = .returned (.int .i64 (p.size : Int)) ∧ w' = W := by
  unfold Pt.size
  rcases h with ⟨h0, q, c, rfl, h1, h2⟩ | ⟨h0, q, c, rfl, h1, h2⟩
  · rw [if_pos h0]
    exact ⟨_, #[], _, _, rfl, .inr rfl, rfl, fun W => psize_walk p.n (by have := hg.n2; omega) W⟩
  · rw [if_neg h0]
    exact ⟨_, #[], _, _, rfl, .inl rfl, rfl, fun W => ssize_walk p.n W⟩
theorem code_take {w : World} {cv : Array Value} {p : Pt} (h : CodeAt w cv p) (hg : Gd p) {A : Option Addr} {m cap : Nat} {bs : List UInt8} (hb : Bs w A m bs) (hm : m = p.size) : ∃ f c x y, cv = #[x, y, .func (.func f) #[] c] ∧ (f = 78 ∨ f = 75) ∧
    Calls Tryz.prog f (#[.slice A m cap, .int .i64 (p.n : Int)] ++ c) w fun e w' => e = .returned (optV (p.dec bs)) ∧ Turn nowhere w w' := by
  unfold Pt.size at hm
  unfold Pt.dec
  rcases h with ⟨h0, q, c, rfl, h1, h2⟩ | ⟨h0, q, c, rfl, h1, h2⟩
  · rw [if_pos h0] at hm ⊢
    exact ⟨_, #[ptrTo c], _, _, rfl, .inr rfl, ptake_walk h2 hb hm (by have := hg.n2; omega) hg.n1 (by have := hg.ch; omega)⟩
  · rw [if_neg h0] at hm ⊢
    subst hm
    rcases hg.st with ⟨g1, _⟩ | ⟨_, g2⟩
    · exact absurd g1 h0
    · exact ⟨_, #[ptrTo q, ptrTo c], _, _, rfl, .inl rfl, stake_walk h1 h2 g2 hb (by have := hg.n2; omega) (by have := hg.ch; omega)⟩
theorem code_rd {w : World} {cv : Array Value} {p : Pt} (h : CodeAt w cv p) (hg : Gd p) : ∃ fs ft ct y, cv = #[.func (.func fs) #[] #[], y, .func (.func ft) #[] ct] ∧ y.oneCell' = true ∧
    ((fs = 76 ∧ ft = 78) ∨ (fs = 73 ∧ ft = 75)) ∧
    (∀ W, Calls Tryz.prog fs #[.int .i64 (p.n : Int)] W fun e w' => e = .returned (.int .i64 (p.size : Int)) ∧ w' = W) ∧
    ∀ W, CodeAt W cv p → ∀ (A : Option Addr) (m cap : Nat) (bs : List UInt8), Bs W A m bs → m = p.size → Calls Tryz.prog ft (#[.slice A m cap, .int .i64 (p.n : Int)] ++ ct) W fun e w' => e = .returned (optV (p.dec bs)) ∧ Turn nowhere W w' := by
  rcases h with ⟨h0, q, c, rfl, h1, h2⟩ | ⟨h0, q, c, rfl, h1, h2⟩
  · refine ⟨_, _, #[ptrTo c], _, rfl, rfl, .inr ⟨rfl, rfl⟩, ?_, ?_⟩
    · intro W
      unfold Pt.size
      rw [if_pos h0]
      exact psize_walk p.n (by have := hg.n2; omega) W
    · intro W hW A m cap bs hb hm
      obtain ⟨f, c', x, y, hcv, _, hcall⟩ := code_take (cap := cap) hW hg hb hm
      injection hcv with hcv
      injection hcv with _ hcv
      injection hcv with _ hcv
      injection hcv with hcv
      injection hcv with hf _ hc
      injection hf with hf
      subst hf hc
      exact hcall
  · refine ⟨_, _, #[ptrTo q, ptrTo c], _, rfl, rfl, .inl ⟨rfl, rfl⟩, ?_, ?_⟩
    · intro W
      unfold Pt.size
      rw [if_neg h0]
      exact ssize_walk p.n W
    · intro W hW A m cap bs hb hm
      obtain ⟨f, c', x, y, hcv, _, hcall⟩ := code_take (cap := cap) hW hg hb hm
      injection hcv with hcv
      injection hcv with _ hcv
      injection hcv with _ hcv
      injection hcv with hcv
      injection hcv with hf _ hc
      injection hf with hf
      subst hf hc
      exact hcall
theorem rd_one {fs ft : FuncId} {ct : Array Value} {y : Value} (hy : y.oneCell' = true) : ∀ v ∈ (#[.func (.func fs) #[] #[], y, .func (.func ft) #[] ct] : Array Value).toList, v.oneCell' = true := by
  intro v hv
  simp only [List.mem_cons, List.not_mem_nil, or_false] at hv
  rcases hv with rfl | rfl | rfl
  · rfl
  · exact hy
  · rfl
def RdS (b8 b12 : Nat) (p : Pt) (cv : Array Value) (W : World) : Prop := Blk W b8 63 (ptC p).toArray ∧ Blk W b12 68 cv
/-- a new block was written: the code stands -/
theorem CodeAt.poke {w5 w6 w7 w8 : World} {cv : Array Value} {p : Pt} {b12 : Nat} (h6 : CodeAt w6 cv p) (_ : Turn nowhere w5 w8) (_ : Turn nowhere w5 w6) (ht : Turn (only b12) w7 w8) (h : CodeAt w7 cv p) (hn : ∀ (cs : Array Value) (tt : TypeId) (q : Nat), Blk w6 q tt cs → q ≠ b12) : CodeAt w8 cv p := by
  rcases h with ⟨h0, q, c, rfl, h1, h2⟩ | ⟨h0, q, c, rfl, h1, h2⟩
  · rcases h6 with ⟨_, q', c', hcv, g1, g2⟩ | ⟨g0, _⟩
    · have e1 : q = q' ∧ c = c' := by
        unfold pairV at hcv
        injection hcv with hcv
        injection hcv with _ hcv
        injection hcv with h3 hcv
        injection hcv with h4 _
        injection h3 with _ _ h3
        injection h4 with _ _ h4
        unfold ptrTo at h3 h4
        simp at h3 h4
        exact ⟨h3, h4⟩
      obtain ⟨rfl, rfl⟩ := e1
      exact .inl ⟨h0, q, c, rfl, h1.turn ht (hn _ _ _ g1), h2.turn ht (hn _ _ _ g2)⟩
    · exact absurd h0 g0
  · rcases h6 with ⟨g0, _⟩ | ⟨_, q', c', hcv, g1, g2⟩
    · exact absurd g0 h0
    · have e1 : q = q' ∧ c = c' := by
        unfold sinV at hcv
        injection hcv with hcv
        injection hcv with _ hcv
        injection hcv with h3 hcv
        injection h3 with _ _ h3
        unfold ptrTo at h3
        simp at h3
        exact h3
      obtain ⟨rfl, rfl⟩ := e1
      exact .inr ⟨h0, q, c, rfl, h1.turn ht (hn _ _ _ g1), h2.turn ht (hn _ _ _ g2)⟩
/-- what a reading answers -/
def TakeR (r : Except Int (List UInt8 × List UInt8)) (e : Ending) (w' : World) : Prop :=
  match r with
  | .error k => e = .returned (.tuple #[strV [], .slice none 0 0, .int .i64 k])
  | .ok (t, rest) => ∃ A n c, e = .returned (.tuple #[strV t, .slice A n c, .int .i64 0]) ∧ Bs w' A n rest ∧ n ≤ c
theorem exec_assign {a : Act} {o : Oper} {W : World} {P : Program} {x : Operand} {v : Value} (ho : o.op = .assign x) (hx : a.eval x = v) : (execOp a.eval o).run P W = .ok (.value v) W := by
  unfold execOp
  simp only [ho, hx, Sem.run_pure]
theorem exec_extract {a : Act} {o : Oper} {W : World} {P : Program} {x : Operand} {i : Nat} {vs : Array Value} {v : Value} (ho : o.op = .extract x i) (hx : a.eval x = .tuple vs) (hv : vs[i]? = some v) : (execOp a.eval o).run P W = .ok (.value v) W := by
  unfold execOp
  simp only [ho, hx]
  go_simp
theorem exec_addN {W : World} {a : Act} {o : Oper} {x y : Operand} {m n : Nat} (ho : o.op = .binOp .add 3 x y 3) (hx : a.eval x = .int .i64 (m : Int)) (hy : a.eval y = .int .i64 (n : Int)) (h : m + n ≤ 1000000) : (execOp a.eval o).run Tryz.prog W = .ok (.value (.int .i64 ((m + n : Nat) : Int))) W := by
  unfold execOp
  simp only [ho, hx, hy]
  have e : IntKind.i64.wrap ((m : Int) + (n : Int)) = ((m + n : Nat) : Int) := by
    rw [IntKind.wrap_i64]
    omega
  rw [← e]
  go_simp
theorem size_le {p : Pt} (h : Gd p) : p.size ≤ 200 := by
  unfold Pt.size
  have := h.n2
  split <;> omega
theorem dec_len {p : Pt} {b t : List UInt8} (h : p.dec b = some t) : t.length ≤ 2 * b.length + 1 := by
  unfold Pt.dec at h
  split at h
  · unfold unpacked at h
    split at h
    · split at h
      · cases h
      · injection h with h
        rw [← h, List.length_drop, unpack_len]
        omega
    · cases h
  · split at h
    · injection h with h
      rw [← h, List.length_map]
      omega
    · cases h
set_option maxRecDepth 20000 in
set_option maxHeartbeats 2000000 in
theorem take_walk {w : World} {g np cp n c : Nat} {ps : List Pt} {b : List UInt8} {A : Option Addr} (hp : PtsAt w g ps) (hnp : ps.length = np) (hg : ∀ p ∈ ps, Gd p) (hps : np ≤ 2) (hb : Bs w A n b) (hc : n ≤ c) :
    Calls Tryz.prog 25 #[.slice A n c, .slice (some ⟨g, 0, none⟩) np cp] w fun e w' => TakeR (takeAll ps b) e w' ∧ Turn nowhere w w' := by
  have HP := Lib.hid hp
  have HNP := Lib.hid hnp
  have HG := Lib.hid hg
  have HPS := Lib.hid hps
  have HB := Lib.hid hb
  have HC := Lib.hid hc
  have hdef : takeAll ps b = if b.length < sizeAll ps then .error 43 else match decAll ps b with
    | none => .error 42
    | some t => .ok (t, b.drop (sizeAll ps)) := rfl
  have HDEF := Lib.hid hdef
  clear hp hnp hg hps hb hc hdef
  go_enter Tryz.func25, Tryz.ntmps25
  go_upto_region 3 with fail
  go_loopg [7, 18] np (fun gk s i wr => ∃ k sz : Nat, k + gk = np ∧ i = .int .i64 (k : Int) ∧ s = .int .i64 (sz : Int) ∧ sz + sizeAll (ps.drop k) = sizeAll ps ∧ sz ≤ 200 * k ∧ Turn nowhere w wr)
  case atStart => exact ⟨0, 0, by omega, rfl, rfl, by simp, by omega, Turn.refl _ _⟩
  case round =>
    obtain ⟨k, sz, hkl, rfl, rfl, hsz, hsz2, htr⟩ := hrel
    have HKL := Lib.hid hkl
    have HTR := Lib.hid htr
    have HSZ := Lib.hid hsz
    have HSZ2 := Lib.hid hsz2
    clear hkl htr hsz hsz2
    by_cases hlt : k < np
    · have y1 : (k : Int) < (np : Int) := by omega
      have y2 : (0 : Int) ≤ (k : Int) := by omega
      have y3 : (np : Int) ≤ 2 := by have := HPS.out; omega
      obtain ⟨p, r, hd⟩ : ∃ p r, ps.drop k = p :: r := by
        cases h : ps.drop k with
        | nil =>
          have := congrArg List.length h
          rw [List.length_drop, HNP.out] at this
          simp at this
          omega
        | cons p r => exact ⟨p, r, rfl⟩
      have hszz := HSZ.out
      rw [hd] at hszz
      have HSZ3 := Lib.hid (show sz + p.size + sizeAll r = sizeAll ps from by rw [sizeAll_cons] at hszz; omega)
      have HD := Lib.hid (drop_cons hd)
      have HLT := Lib.hid hlt
      clear hlt hd hszz
      go_upto_region 4 with fail
      have hk0 : wr.rangeAt g (k * 3) (ptC p) := (HP.out.turn HTR.out (fun e => e)).range HD.out.1
      refine wp_region_lit ?_
      refine wpList_run (v := .pointer (some ⟨g, k * 3, none⟩)) (w' := wr) rfl (by go_simp) ?_
      simp only [Act.put, List.setIfInBounds_toArray, List.set_cons_zero, List.set_cons_succ]
      refine wpList_run (v := .agg (ptC p).toArray) rfl (exec_load rfl rfl (load_part hk0)) ?_
      simp only [Act.put, List.setIfInBounds_toArray, List.set_cons_zero, List.set_cons_succ]
      refine wpList_run (v := _) rfl (exec_alloc rfl (zero_part _)) ?_
      simp only [Act.put, List.setIfInBounds_toArray, List.set_cons_zero, List.set_cons_succ]
      have hbn := Blk.new wr 63 #[.int .i64 0, .string ByteArray.empty, .string ByteArray.empty]
      have htn := (Turn.refl nowhere wr).alloc (.cells #[.int .i64 0, .string ByteArray.empty, .string ByteArray.empty] 63)
      generalize (wr.alloc (.cells #[.int .i64 0, .string ByteArray.empty, .string ByteArray.empty] 63)) = w4 at *
      obtain ⟨b8, hb8⟩ : ∃ b8, b8 = wr.heap.size := ⟨_, rfl⟩
      rw [← hb8] at hbn ⊢
      refine wpList_store_part rfl (.tmp 9) (.tmp 21) rfl hbn rfl rfl rfl size_part ?_
      intro w5 hq5 ht5
      have HT5 := Lib.hid (show Turn nowhere wr w5 from htn.trans ht5 (fun j hj e => by have h2 : j = b8 := e; omega))
      have HB5 := Lib.hid hq5
      clear hk0 hbn htn hb8 hq5 ht5
      simp only [Act.put]
      have HGD := Lib.hid (HG.out p (List.mem_of_getElem? HD.out.1))
      go_upto_region 5 with fail
      have hS0 : PtB b8 p w5.drew := HB5.out.drew
      refine wp_region_till (PtB b8 p) 8 (by kernel_rfl) ?_
      refine till_pure (i := 0) (v := .int .i64 (sz : Int)) rfl (by kernel_rfl) (by kernel_rfl) (fun _ _ _ h => h) (.inl ⟨by rfl, fun W hW => exec_move rfl rfl⟩) hS0 ?_
      simp only [Act.put, List.setIfInBounds_toArray, List.set_cons_zero, List.set_cons_succ]
      refine till_take (i := 1) (v := .agg (ptC p).toArray) rfl (by kernel_rfl) (by kernel_rfl) (fun _ _ _ h => h) (.inl ⟨by rfl, fun W hW => exec_load rfl rfl (load_blkPart hW)⟩) hS0 ?_
      simp only [Act.put, List.setIfInBounds_toArray, List.set_cons_zero, List.set_cons_succ]
      refine till_pure (i := 4) (v := .pointer (some ⟨b8, 0, none⟩)) rfl (by kernel_rfl) (by kernel_rfl) (fun _ _ _ h => h) (.inl ⟨by rfl, fun W hW => exec_field (off := 0) (d := 0) rfl rfl (by kernel_rfl)⟩) hS0 ?_
      simp only [Act.put, List.setIfInBounds_toArray, List.set_cons_zero, List.set_cons_succ]
      refine till_take (i := 5) (v := .int .i64 (p.n : Int)) rfl (by kernel_rfl) (by kernel_rfl) (fun _ _ _ h => h) (.inl ⟨by rfl, fun W hW => exec_load1 rfl rfl (by kernel_rfl) (Blk.cell hW 0)⟩) hS0 ?_
      simp only [Act.put, List.setIfInBounds_toArray, List.set_cons_zero, List.set_cons_succ]
      refine till_step (i := 2) (by kernel_rfl) rfl rfl ?_
      intro K1 HK1
      go_wp2_with fail
      refine (codeOf_walk p _).mono ?_
      rintro e w6 ⟨cv, rfl, hcode, ht6⟩
      have hS1 : PtB b8 p w6 := hS0.turn ht6 (fun e => e)
      refine HK1.out _ _ ⟨fun _ => hS1, ?_⟩
      clear HK1
      obtain ⟨f, cc, xx, yy, rfl, hf, rfl, hcall⟩ := code_size hcode HGD.out
      have HCALL := Lib.hid hcall
      have HT6 := Lib.hid ((HTR.out.trans HT5.out (fun _ _ e => e)).drew.trans ht6 (fun _ _ e => e))
      clear hcall hcode ht6 hS0
      refine till_pure (i := 3) (v := .func (.func f) #[] #[]) rfl (by kernel_rfl) (by kernel_rfl) (fun _ _ _ h => h) (.inl ⟨by rfl, fun W hW => exec_getField rfl rfl (field_size _ _ _ W)⟩) hS1 ?_
      simp only [Act.put, List.setIfInBounds_toArray, List.set_cons_zero, List.set_cons_succ]
      refine till_step (i := 6) (by kernel_rfl) rfl rfl ?_
      intro K1 HK1
      have HS1 := Lib.hid hS1
      clear hS1
      have hp8 := size_le HGD.out
      generalize hps8 : p.size = ps8 at *
      have HPS8 := Lib.hid hps8
      have HP8 := Lib.hid hp8
      clear hps8 hp8
      rcases hf with rfl | rfl
      · go_wp2_with fail
        refine (HCALL.out _).mono ?_
        rintro e w7 ⟨rfl, rfl⟩
        refine HK1.out _ _ ⟨fun _ => HS1.out, ?_⟩
        clear HK1
        refine till_only (i := 7) (by kernel_rfl) rfl rfl ?_
        refine wp_run (v := .int .i64 ((sz + ps8 : Nat) : Int)) (w' := w7) (exec_addN rfl rfl rfl (by have h1 := HSZ2.out; have h2 := HP8.out; have h3 := HLT.out; have h4 := HPS.out; omega)) ?_
        refine ⟨fun _ => HS1.out, ?_⟩
        simp only [Act.put, List.setIfInBounds_toArray, List.set_cons_zero, List.set_cons_succ]
        refine till_tail 8 rfl (by kernel_rfl) ?_
        go_wp2_with fail
        refine NoPanic.normal ?_
        go_wp2_with fail
        go_roundg (gk - 1)
        case measure => have := HKL.out; have := HLT.out; omega
        case rel =>
          refine ⟨k + 1, sz + ps8, by have := HKL.out; have := HLT.out; omega, by go_num, rfl, ?_, by have h1 := HSZ2.out; have h2 := HP8.out; omega, HT6.out⟩
          rw [HD.out.2.1]
          exact HSZ3.out
      · go_wp2_with fail
        refine (HCALL.out _).mono ?_
        rintro e w7 ⟨rfl, rfl⟩
        refine HK1.out _ _ ⟨fun _ => HS1.out, ?_⟩
        clear HK1
        refine till_only (i := 7) (by kernel_rfl) rfl rfl ?_
        refine wp_run (v := .int .i64 ((sz + ps8 : Nat) : Int)) (w' := w7) (exec_addN rfl rfl rfl (by have h1 := HSZ2.out; have h2 := HP8.out; have h3 := HLT.out; have h4 := HPS.out; omega)) ?_
        refine ⟨fun _ => HS1.out, ?_⟩
        simp only [Act.put, List.setIfInBounds_toArray, List.set_cons_zero, List.set_cons_succ]
        refine till_tail 8 rfl (by kernel_rfl) ?_
        go_wp2_with fail
        refine NoPanic.normal ?_
        go_wp2_with fail
        go_roundg (gk - 1)
        case measure => have := HKL.out; have := HLT.out; omega
        case rel =>
          refine ⟨k + 1, sz + ps8, by have := HKL.out; have := HLT.out; omega, by go_num, rfl, ?_, by have h1 := HSZ2.out; have h2 := HP8.out; omega, HT6.out⟩
          rw [HD.out.2.1]
          exact HSZ3.out
    · have hke : k = np := by have := HKL.out; omega
      have y1 : ¬ ((k : Int) < (np : Int)) := by omega
      clear hlt
      have hsz := HSZ.out
      rw [List.drop_of_length_le (by rw [HNP.out, hke]; exact Nat.le_refl _)] at hsz
      have hsz2 : sz = sizeAll ps := by simpa [sizeAll] using hsz
      have HSS := Lib.hid hsz2
      clear hsz hsz2 hke
      have hbl : b.length = n := HB.out.1
      have HBL := Lib.hid hbl
      clear hbl
      by_cases hshort : n < sz
      · have HRES := Lib.hid (show takeAll ps b = .error 43 from by rw [HDEF.out, if_pos (by rw [HBL.out, ← HSS.out]; exact hshort)])
        have y2 : (n : Int) < (sz : Int) := by omega
        clear hshort
        go_wp2_with fail
        go_ret3
        rw [HRES.out]
        exact ⟨rfl, HTR.out⟩
      · have HRES := Lib.hid (show takeAll ps b = (match decAll ps b with
          | none => .error 42
          | some t => .ok (t, b.drop (sizeAll ps))) from by rw [HDEF.out, if_neg (by rw [HBL.out, ← HSS.out]; exact hshort)])
        have y2 : ¬ ((n : Int) < (sz : Int)) := by omega
        have HLONG := Lib.hid hshort
        clear hshort
        generalize gk = gk1 at *
        go_upto_region 10 with fail
        generalize wr = wL at *
        have HB2 := Lib.hid (bs_turn HB.out HTR.out)
        have HP2 := Lib.hid (HP.out.turn HTR.out (fun e => e))
        have HLL := Lib.hid (show sizeAll ps ≤ b.length from by rw [HBL.out, ← HSS.out]; have := HLONG.out; omega)
        clear HSZ HSZ2 HKL y2
        go_loopg [0, 4, 37] np (fun gk x s i wr => ∃ (k n' c' : Nat) (A' : Option Addr) (b2 t1 : List UInt8), k + gk = np ∧ i = .int .i64 (k : Int) ∧ x = .slice A' n' c' ∧ s = strV t1 ∧ Bs wr A' n' b2 ∧ n' ≤ c' ∧ sizeAll (ps.drop k) ≤ b2.length ∧ decAll ps b = (decAll (ps.drop k) b2).map (t1 ++ ·) ∧ b2.drop (sizeAll (ps.drop k)) = b.drop (sizeAll ps) ∧ t1.length ≤ 1000 * k ∧ Turn nowhere wL wr)
        case atStart => exact ⟨0, _, _, _, b, [], by omega, rfl, rfl, rfl, HB2.out, HC.out, by rw [List.drop_zero]; exact HLL.out, by rw [List.drop_zero]; cases decAll ps b <;> rfl, by rw [List.drop_zero], by simp, Turn.refl _ _⟩
        case round =>
          obtain ⟨k, n', c', A', b2, t1, hkl, rfl, rfl, rfl, hbs, hnc, hsl, hdec, hdrop, htl, htr⟩ := hrel
          have HKL := Lib.hid hkl
          have HTR2 := Lib.hid htr
          have HBS := Lib.hid hbs
          have HNC := Lib.hid hnc
          have HSL := Lib.hid hsl
          have HDEC := Lib.hid hdec
          have HDROP := Lib.hid hdrop
          have HTL := Lib.hid htl
          clear hkl htr hbs hnc hsl hdec hdrop htl
          by_cases hlt : k < np
          · have y1 : (k : Int) < (np : Int) := by omega
            have y2 : (0 : Int) ≤ (k : Int) := by omega
            have y3 : (np : Int) ≤ 2 := by have := HPS.out; omega
            obtain ⟨p, r, hd⟩ : ∃ p r, ps.drop k = p :: r := by
              cases h : ps.drop k with
              | nil =>
                have := congrArg List.length h
                rw [List.length_drop, HNP.out] at this
                simp at this
                omega
              | cons p r => exact ⟨p, r, rfl⟩
            have h1 := HSL.out
            have h2 := HDEC.out
            have h3 := HDROP.out
            rw [hd] at h1 h2 h3
            rw [sizeAll_cons] at h1 h3
            have HSL2 := Lib.hid h1
            have HDEC2 := Lib.hid h2
            have HDROP2 := Lib.hid h3
            have HD := Lib.hid (drop_cons hd)
            have HLT := Lib.hid hlt
            clear hlt hd h1 h2 h3
            go_upto_region 11 with fail
            have hk0 : wr.rangeAt g (k * 3) (ptC p) := (HP2.out.turn HTR2.out (fun e => e)).range HD.out.1
            refine wp_region_lit ?_
            refine wpList_run (v := .pointer (some ⟨g, k * 3, none⟩)) (w' := wr) rfl (by go_simp) ?_
            simp only [Act.put, List.setIfInBounds_toArray, List.set_cons_zero, List.set_cons_succ]
            refine wpList_run (v := .agg (ptC p).toArray) rfl (exec_load rfl rfl (load_part hk0)) ?_
            simp only [Act.put, List.setIfInBounds_toArray, List.set_cons_zero, List.set_cons_succ]
            refine wpList_run (v := _) rfl (exec_alloc rfl (zero_part _)) ?_
            simp only [Act.put, List.setIfInBounds_toArray, List.set_cons_zero, List.set_cons_succ]
            have hbn := Blk.new wr 63 #[.int .i64 0, .string ByteArray.empty, .string ByteArray.empty]
            have htn := (Turn.refl nowhere wr).alloc (.cells #[.int .i64 0, .string ByteArray.empty, .string ByteArray.empty] 63)
            generalize (wr.alloc (.cells #[.int .i64 0, .string ByteArray.empty, .string ByteArray.empty] 63)) = w4 at *
            obtain ⟨b8, hb8⟩ : ∃ b8, b8 = wr.heap.size := ⟨_, rfl⟩
            rw [← hb8] at hbn ⊢
            refine wpList_store_part rfl (.tmp 11) (.tmp 40) rfl hbn rfl rfl rfl size_part ?_
            intro w5 hq5 ht5
            have HT5 := Lib.hid (show Turn nowhere wr w5 from htn.trans ht5 (fun j hj e => by have h2 : j = b8 := e; omega))
            have HB5 := Lib.hid hq5
            clear hk0 hbn htn hb8 hq5 ht5
            simp only [Act.put]
            have HGD := Lib.hid (HG.out p (List.mem_of_getElem? HD.out.1))
            go_upto_region 12 with fail
            refine wp_region_lit ?_
            refine wpList_run (v := .agg (ptC p).toArray) rfl (exec_load rfl rfl (load_blkPart HB5.out)) ?_
            simp only [Act.put, List.setIfInBounds_toArray, List.set_cons_zero, List.set_cons_succ]
            go_upto_region 13 with (first
              | (go_at_call 34
                 refine (codeOf_walk p _).mono ?_
                 rintro e w6 ⟨cv, rfl, hcode, ht6⟩
                 obtain ⟨fs, ft, ct, yy, rfl, hy, hf, hsize, htake⟩ := code_rd hcode HGD.out
                 have HY := Lib.hid hy
                 have HF := Lib.hid hf
                 have HSIZE := Lib.hid hsize
                 have HTAKE := Lib.hid htake
                 have HCODE := Lib.hid hcode
                 have HT6 := Lib.hid ht6
                 clear hcode ht6 hsize htake hf hy)
              | (refine wpList_run (v := _) rfl (exec_alloc rfl (zero_code _)) ?_
                 simp only [Act.put, List.setIfInBounds_toArray, List.set_cons_zero, List.set_cons_succ]
                 have hq7 := Blk.new w6 68 #[.nilFunc, .nilFunc, .nilFunc]
                 have HB7 := Lib.hid ((HB5.out.turn HT6.out (fun e => e)).alloc (.cells #[.nilFunc, .nilFunc, .nilFunc] 68))
                 have HT7 := Lib.hid (HT6.out.alloc (.cells #[.nilFunc, .nilFunc, .nilFunc] 68))
                 have HC7 := Lib.hid (HCODE.out.turn ((Turn.refl nowhere w6).alloc (.cells #[.nilFunc, .nilFunc, .nilFunc] 68)))
                 have HL6 := Lib.hid (show b8 < w6.heap.size from Nat.lt_of_lt_of_le HB5.out.lt HT6.out.size)
                 have HL5 := Lib.hid (show w5.heap.size ≤ w6.heap.size from HT6.out.size)
                 have HL7 := Lib.hid (show ∀ (cs : Array Value) (tt : TypeId) (q : Nat), Blk w6 q tt cs → q ≠ w6.heap.size from fun cs tt q h => Nat.ne_of_lt h.lt)
                 generalize (w6.alloc (.cells #[.nilFunc, .nilFunc, .nilFunc] 68)) = w7 at *
                 generalize w6.heap.size = b12 at *)
              | (refine wpList_store_row rfl 68 (.tmp 12) (.tmp 42) rfl #[.func (.func fs) #[] #[], yy, .func (.func ft) #[] ct] hq7 rfl rfl rfl size_code (rd_one HY.out) ?_
                 intro w8 hb8c ht8
                 have HQ8 := Lib.hid hb8c
                 have HT8 := Lib.hid (show Turn nowhere w5 w8 from HT7.out.trans ht8 (fun j hj e => by have h2 : j = b12 := e; have := HL5.out; omega))
                 have HB8 := Lib.hid (HB7.out.turn ht8 (fun e => by have h2 : b8 = b12 := e; have := HL6.out; omega))
                 have HC8 := Lib.hid (HCODE.out.poke HT8.out HT6.out ht8 HC7.out HL7.out)
                 clear hb8c ht8 hq7))
            have c0 : w8.cell? ⟨b12, 0, none⟩ = some (.func (.func fs) #[] #[]) := HQ8.out.cell 0
            have c1 : w8.cell? ⟨b8, 0, none⟩ = some (.int .i64 (p.n : Int)) := HB8.out.cell 0
            have hdc : decAll (p :: r) b2 = match p.dec (b2.take p.size) with
              | none => none
              | some t => (decAll r (b2.drop p.size)).map (t ++ ·) := rfl
            have HDC := Lib.hid hdc
            clear hdc
            have hp8 := size_le HGD.out
            have HTAKE8 := Lib.hid (HTAKE.out w8.drew (HC8.out.turn (Turn.drew (Turn.refl _ _))) A' p.size c' (b2.take p.size) (bs_to (bs_turn HBS.out ((HT5.out.trans HT8.out (fun _ _ e => e)).drew)) (by have h1 := HSL2.out; have h2 := HBS.out.1; omega)) rfl)
            generalize hps8 : p.size = ps8 at *
            have HPS8 := Lib.hid hps8
            have HP8 := Lib.hid hp8
            clear hps8 hp8 HTAKE
            rcases HF.out with ⟨rfl, rfl⟩ | ⟨rfl, rfl⟩
            · go_upto_region 14 with (go_at_call 76; refine (HSIZE.out _).mono ?_; rintro e w9 ⟨rfl, rfl⟩)
              have hS0 : RdS b8 b12 p #[.func (.func 76) #[] #[], yy, .func (.func 78) #[] ct] w9.drew := ⟨HB8.out.drew, HQ8.out.drew⟩
              refine wp_region_till (RdS b8 b12 p #[.func (.func 76) #[] #[], yy, .func (.func 78) #[] ct]) 7 (by kernel_rfl) ?_
              refine till_pure (i := 0) (v := .pointer (some ⟨b12, 2, none⟩)) rfl (by kernel_rfl) (by kernel_rfl) (fun _ _ _ h => h) (.inl ⟨by rfl, fun W hW => exec_field (off := 0) (d := 2) rfl rfl (by kernel_rfl)⟩) hS0 ?_
              simp only [Act.put, List.setIfInBounds_toArray, List.set_cons_zero, List.set_cons_succ]
              refine till_take (i := 1) (v := .func (.func 78) #[] ct) rfl (by kernel_rfl) (by kernel_rfl) (fun _ _ _ h => h) (.inl ⟨by rfl, fun W hW => exec_load1 rfl rfl (by kernel_rfl) (hW.2.cell 2)⟩) hS0 ?_
              simp only [Act.put, List.setIfInBounds_toArray, List.set_cons_zero, List.set_cons_succ]
              refine till_pure (i := 2) (v := .slice A' n' c') rfl (by kernel_rfl) (by kernel_rfl) (fun _ _ _ h => h) (.inl ⟨by rfl, fun W hW => exec_move rfl rfl⟩) hS0 ?_
              simp only [Act.put, List.setIfInBounds_toArray, List.set_cons_zero, List.set_cons_succ]
              refine till_pure (i := 3) (v := .int .i64 (ps8 : Int)) rfl (by kernel_rfl) (by kernel_rfl) (fun _ _ _ h => h) (.inl ⟨by rfl, fun W hW => exec_move rfl rfl⟩) hS0 ?_
              simp only [Act.put, List.setIfInBounds_toArray, List.set_cons_zero, List.set_cons_succ]
              refine till_pure (i := 4) (v := .slice A' ps8 c') rfl (by kernel_rfl) (by kernel_rfl) (fun _ _ _ h => h) (.inl ⟨by rfl, fun W hW => exec_slice rfl rfl rfl rfl rfl (slice_to_any A' n' c' ps8 (by have h1 := HSL2.out; have h2 := HBS.out.1; omega) HNC.out W)⟩) hS0 ?_
              simp only [Act.put, List.setIfInBounds_toArray, List.set_cons_zero, List.set_cons_succ]
              refine till_pure (i := 5) (v := .pointer (some ⟨b8, 0, none⟩)) rfl (by kernel_rfl) (by kernel_rfl) (fun _ _ _ h => h) (.inl ⟨by rfl, fun W hW => exec_field (off := 0) (d := 0) rfl rfl (by kernel_rfl)⟩) hS0 ?_
              simp only [Act.put, List.setIfInBounds_toArray, List.set_cons_zero, List.set_cons_succ]
              refine till_take (i := 6) (v := .int .i64 (p.n : Int)) rfl (by kernel_rfl) (by kernel_rfl) (fun _ _ _ h => h) (.inl ⟨by rfl, fun W hW => exec_load1 rfl rfl (by kernel_rfl) (hW.1.cell 0)⟩) hS0 ?_
              simp only [Act.put, List.setIfInBounds_toArray, List.set_cons_zero, List.set_cons_succ]
              refine till_step (i := 7) (by kernel_rfl) rfl rfl ?_
              intro K1 HK1
              have HS0 := Lib.hid hS0
              clear hS0 c0 c1
              go_wp2_with fail
              refine HTAKE8.out.mono ?_
              rintro e w10 ⟨rfl, ht10⟩
              have hS1 : RdS b8 b12 p #[.func (.func 76) #[] #[], yy, .func (.func 78) #[] ct] w10 := ⟨HS0.out.1.turn ht10 (fun e => e), HS0.out.2.turn ht10 (fun e => e)⟩
              refine HK1.out _ _ ⟨fun _ => hS1, ?_⟩
              clear HK1
              have HT9 := Lib.hid (((HT5.out.trans HT8.out (fun _ _ e => e)).drew).trans ht10 (fun _ _ e => e))
              have HT10 := Lib.hid (((HTR2.out.trans HT5.out (fun _ _ e => e)).trans HT8.out (fun _ _ e => e)).drew.trans ht10 (fun _ _ e => e))
              clear ht10
              refine till_pure (i := 8) (v := optV (p.dec (b2.take ps8))) rfl (by kernel_rfl) (by kernel_rfl) (fun _ _ _ h => h) (.inl ⟨by rfl, fun W hW => exec_move rfl rfl⟩) hS1 ?_
              simp only [Act.put, List.setIfInBounds_toArray, List.set_cons_zero, List.set_cons_succ]
              refine till_pure (i := 9) (v := strV ((p.dec (b2.take ps8)).getD [])) rfl (by kernel_rfl) (by kernel_rfl) (fun _ _ _ h => h) (.inl ⟨by rfl, fun W hW => exec_extract rfl rfl rfl⟩) hS1 ?_
              simp only [Act.put, List.setIfInBounds_toArray, List.set_cons_zero, List.set_cons_succ]
              refine till_pure (i := 10) (v := .bool (p.dec (b2.take ps8)).isSome) rfl (by kernel_rfl) (by kernel_rfl) (fun _ _ _ h => h) (.inl ⟨by rfl, fun W hW => exec_extract rfl rfl rfl⟩) hS1 ?_
              simp only [Act.put, List.setIfInBounds_toArray, List.set_cons_zero, List.set_cons_succ]
              refine till_pure (i := 11) (v := strV ((p.dec (b2.take ps8)).getD [])) rfl (by kernel_rfl) (by kernel_rfl) (fun _ _ _ h => h) (.inl ⟨by rfl, fun W hW => exec_assign rfl rfl⟩) hS1 ?_
              simp only [Act.put, List.setIfInBounds_toArray, List.set_cons_zero, List.set_cons_succ]
              refine till_pure (i := 12) (v := .bool (p.dec (b2.take ps8)).isSome) rfl (by kernel_rfl) (by kernel_rfl) (fun _ _ _ h => h) (.inl ⟨by rfl, fun W hW => exec_assign rfl rfl⟩) hS1 ?_
              simp only [Act.put, List.setIfInBounds_toArray, List.set_cons_zero, List.set_cons_succ]
              refine till_done (by kernel_rfl) ?_
              refine NoPanic.normal ?_
              clear hS1 HS0
              cases hpd : p.dec (b2.take ps8) with
              | none =>
                have HFAIL := Lib.hid (show takeAll ps b = .error 42 from by
                  rw [HRES.out, HDEC2.out, HDC.out, hpd]
                  rfl)
                simp only [Option.getD_none, Option.isSome_none]
                clear hpd
                go_wp2_with fail
                go_ret3
                rw [HFAIL.out]
                exact ⟨rfl, HTR.out.trans HT10.out (fun _ _ e => e)⟩
              | some tp =>
                have HPD := Lib.hid hpd
                have HTPL := Lib.hid (dec_len hpd)
                simp only [Option.getD_some, Option.isSome_some]
                clear hpd
                go_upto_region 17 with fail
                have hT : (fun _ : World => True) w10.drew := trivial
                refine wp_region_till (fun _ => True) 8 (by kernel_rfl) ?_
                refine till_pure (i := 0) (v := strV t1) rfl (by kernel_rfl) (by kernel_rfl) (fun _ _ _ h => h) (.inl ⟨by rfl, fun W hW => exec_move rfl rfl⟩) hT ?_
                simp only [Act.put, List.setIfInBounds_toArray, List.set_cons_zero, List.set_cons_succ]
                refine till_pure (i := 1) (v := strV tp) rfl (by kernel_rfl) (by kernel_rfl) (fun _ _ _ h => h) (.inl ⟨by rfl, fun W hW => exec_move rfl rfl⟩) hT ?_
                simp only [Act.put, List.setIfInBounds_toArray, List.set_cons_zero, List.set_cons_succ]
                refine till_pure (i := 2) (v := strV (t1 ++ tp)) rfl (by kernel_rfl) (by kernel_rfl) (fun _ _ _ h => h) (.inl ⟨by rfl, fun W hW => exec_sadd rfl rfl rfl (by have h1 := HTL.out; have h2 := HTPL.out; have h3 := HP8.out; have h4 := HLT.out; have h5 := HPS.out; rw [List.length_take] at h2; omega)⟩) hT ?_
                simp only [Act.put, List.setIfInBounds_toArray, List.set_cons_zero, List.set_cons_succ]
                refine till_pure (i := 3) (v := .slice A' n' c') rfl (by kernel_rfl) (by kernel_rfl) (fun _ _ _ h => h) (.inl ⟨by rfl, fun W hW => exec_move rfl rfl⟩) hT ?_
                simp only [Act.put, List.setIfInBounds_toArray, List.set_cons_zero, List.set_cons_succ]
                refine till_pure (i := 4) (v := .int .i64 (ps8 : Int)) rfl (by kernel_rfl) (by kernel_rfl) (fun _ _ _ h => h) (.inl ⟨by rfl, fun W hW => exec_move rfl rfl⟩) hT ?_
                simp only [Act.put, List.setIfInBounds_toArray, List.set_cons_zero, List.set_cons_succ]
                refine till_pure (i := 5) (v := .slice (fromA A' c' ps8) (n' - ps8) (c' - ps8)) rfl (by kernel_rfl) (by kernel_rfl) (fun _ _ _ h => h) (.inl ⟨by rfl, fun W hW => exec_slice rfl rfl rfl rfl rfl (slice_from_any A' n' c' ps8 (by have h1 := HSL2.out; have h2 := HBS.out.1; omega) HNC.out W)⟩) hT ?_
                simp only [Act.put, List.setIfInBounds_toArray, List.set_cons_zero, List.set_cons_succ]
                refine till_pure (i := 6) (v := strV (t1 ++ tp)) rfl (by kernel_rfl) (by kernel_rfl) (fun _ _ _ h => h) (.inl ⟨by rfl, fun W hW => exec_assign rfl rfl⟩) hT ?_
                simp only [Act.put, List.setIfInBounds_toArray, List.set_cons_zero, List.set_cons_succ]
                refine till_pure (i := 7) (v := .slice (fromA A' c' ps8) (n' - ps8) (c' - ps8)) rfl (by kernel_rfl) (by kernel_rfl) (fun _ _ _ h => h) (.inl ⟨by rfl, fun W hW => exec_assign rfl rfl⟩) hT ?_
                simp only [Act.put, List.setIfInBounds_toArray, List.set_cons_zero]
                refine till_done (by kernel_rfl) ?_
                refine NoPanic.normal ?_
                clear hT
                go_wp2_with fail
                go_roundg (gk - 1)
                case measure => have := HKL.out; have := HLT.out; omega
                case rel =>
                  refine ⟨k + 1, n' - ps8, c' - ps8, fromA A' c' ps8, b2.drop ps8, t1 ++ tp, by have := HKL.out; have := HLT.out; omega, by go_num, rfl, rfl, ?_, by have := HNC.out; omega, ?_, ?_, ?_, ?_, HT10.out.drew⟩
                  · exact bs_from (bs_turn HBS.out HT9.out.drew) (by have h1 := HSL2.out; have h2 := HBS.out.1; omega) HNC.out
                  · rw [HD.out.2.1, List.length_drop]
                    have h1 := HSL2.out
                    omega
                  · rw [HD.out.2.1, HDEC2.out, HDC.out, HPD.out]
                    cases decAll r (b2.drop ps8) <;> simp
                  · rw [HD.out.2.1, List.drop_drop]
                    exact HDROP2.out
                  · have h1 := HTL.out
                    have h2 := HTPL.out
                    have h3 := HP8.out
                    rw [List.length_take] at h2
                    rw [List.length_append]
                    omega
            · go_upto_region 14 with (go_at_call 73; refine (HSIZE.out _).mono ?_; rintro e w9 ⟨rfl, rfl⟩)
              have hS0 : RdS b8 b12 p #[.func (.func 73) #[] #[], yy, .func (.func 75) #[] ct] w9.drew := ⟨HB8.out.drew, HQ8.out.drew⟩
              refine wp_region_till (RdS b8 b12 p #[.func (.func 73) #[] #[], yy, .func (.func 75) #[] ct]) 7 (by kernel_rfl) ?_
              refine till_pure (i := 0) (v := .pointer (some ⟨b12, 2, none⟩)) rfl (by kernel_rfl) (by kernel_rfl) (fun _ _ _ h => h) (.inl ⟨by rfl, fun W hW => exec_field (off := 0) (d := 2) rfl rfl (by kernel_rfl)⟩) hS0 ?_
              simp only [Act.put, List.setIfInBounds_toArray, List.set_cons_zero, List.set_cons_succ]
              refine till_take (i := 1) (v := .func (.func 75) #[] ct) rfl (by kernel_rfl) (by kernel_rfl) (fun _ _ _ h => h) (.inl ⟨by rfl, fun W hW => exec_load1 rfl rfl (by kernel_rfl) (hW.2.cell 2)⟩) hS0 ?_
              simp only [Act.put, List.setIfInBounds_toArray, List.set_cons_zero, List.set_cons_succ]
              refine till_pure (i := 2) (v := .slice A' n' c') rfl (by kernel_rfl) (by kernel_rfl) (fun _ _ _ h => h) (.inl ⟨by rfl, fun W hW => exec_move rfl rfl⟩) hS0 ?_
              simp only [Act.put, List.setIfInBounds_toArray, List.set_cons_zero, List.set_cons_succ]
              refine till_pure (i := 3) (v := .int .i64 (ps8 : Int)) rfl (by kernel_rfl) (by kernel_rfl) (fun _ _ _ h => h) (.inl ⟨by rfl, fun W hW => exec_move rfl rfl⟩) hS0 ?_
              simp only [Act.put, List.setIfInBounds_toArray, List.set_cons_zero, List.set_cons_succ]
              refine till_pure (i := 4) (v := .slice A' ps8 c') rfl (by kernel_rfl) (by kernel_rfl) (fun _ _ _ h => h) (.inl ⟨by rfl, fun W hW => exec_slice rfl rfl rfl rfl rfl (slice_to_any A' n' c' ps8 (by have h1 := HSL2.out; have h2 := HBS.out.1; omega) HNC.out W)⟩) hS0 ?_
              simp only [Act.put, List.setIfInBounds_toArray, List.set_cons_zero, List.set_cons_succ]
              refine till_pure (i := 5) (v := .pointer (some ⟨b8, 0, none⟩)) rfl (by kernel_rfl) (by kernel_rfl) (fun _ _ _ h => h) (.inl ⟨by rfl, fun W hW => exec_field (off := 0) (d := 0) rfl rfl (by kernel_rfl)⟩) hS0 ?_
              simp only [Act.put, List.setIfInBounds_toArray, List.set_cons_zero, List.set_cons_succ]
              refine till_take (i := 6) (v := .int .i64 (p.n : Int)) rfl (by kernel_rfl) (by kernel_rfl) (fun _ _ _ h => h) (.inl ⟨by rfl, fun W hW => exec_load1 rfl rfl (by kernel_rfl) (hW.1.cell 0)⟩) hS0 ?_
              simp only [Act.put, List.setIfInBounds_toArray, List.set_cons_zero, List.set_cons_succ]
              refine till_step (i := 7) (by kernel_rfl) rfl rfl ?_
              intro K1 HK1
              have HS0 := Lib.hid hS0
              clear hS0 c0 c1
              go_wp2_with fail
              refine HTAKE8.out.mono ?_
              rintro e w10 ⟨rfl, ht10⟩
              have hS1 : RdS b8 b12 p #[.func (.func 73) #[] #[], yy, .func (.func 75) #[] ct] w10 := ⟨HS0.out.1.turn ht10 (fun e => e), HS0.out.2.turn ht10 (fun e => e)⟩
              refine HK1.out _ _ ⟨fun _ => hS1, ?_⟩
              clear HK1
              have HT9 := Lib.hid (((HT5.out.trans HT8.out (fun _ _ e => e)).drew).trans ht10 (fun _ _ e => e))
              have HT10 := Lib.hid (((HTR2.out.trans HT5.out (fun _ _ e => e)).trans HT8.out (fun _ _ e => e)).drew.trans ht10 (fun _ _ e => e))
              clear ht10
              refine till_pure (i := 8) (v := optV (p.dec (b2.take ps8))) rfl (by kernel_rfl) (by kernel_rfl) (fun _ _ _ h => h) (.inl ⟨by rfl, fun W hW => exec_move rfl rfl⟩) hS1 ?_
              simp only [Act.put, List.setIfInBounds_toArray, List.set_cons_zero, List.set_cons_succ]
              refine till_pure (i := 9) (v := strV ((p.dec (b2.take ps8)).getD [])) rfl (by kernel_rfl) (by kernel_rfl) (fun _ _ _ h => h) (.inl ⟨by rfl, fun W hW => exec_extract rfl rfl rfl⟩) hS1 ?_
              simp only [Act.put, List.setIfInBounds_toArray, List.set_cons_zero, List.set_cons_succ]
              refine till_pure (i := 10) (v := .bool (p.dec (b2.take ps8)).isSome) rfl (by kernel_rfl) (by kernel_rfl) (fun _ _ _ h => h) (.inl ⟨by rfl, fun W hW => exec_extract rfl rfl rfl⟩) hS1 ?_
              simp only [Act.put, List.setIfInBounds_toArray, List.set_cons_zero, List.set_cons_succ]
              refine till_pure (i := 11) (v := strV ((p.dec (b2.take ps8)).getD [])) rfl (by kernel_rfl) (by kernel_rfl) (fun _ _ _ h => h) (.inl ⟨by rfl, fun W hW => exec_assign rfl rfl⟩) hS1 ?_
              simp only [Act.put, List.setIfInBounds_toArray, List.set_cons_zero, List.set_cons_succ]
              refine till_pure (i := 12) (v := .bool (p.dec (b2.take ps8)).isSome) rfl (by kernel_rfl) (by kernel_rfl) (fun _ _ _ h => h) (.inl ⟨by rfl, fun W hW => exec_assign rfl rfl⟩) hS1 ?_
              simp only [Act.put, List.setIfInBounds_toArray, List.set_cons_zero, List.set_cons_succ]
              refine till_done (by kernel_rfl) ?_
              refine NoPanic.normal ?_
              clear hS1 HS0
              cases hpd : p.dec (b2.take ps8) with
              | none =>
                have HFAIL := Lib.hid (show takeAll ps b = .error 42 from by
                  rw [HRES.out, HDEC2.out, HDC.out, hpd]
                  rfl)
                simp only [Option.getD_none, Option.isSome_none]
                clear hpd
                go_wp2_with fail
                go_ret3
                rw [HFAIL.out]
                exact ⟨rfl, HTR.out.trans HT10.out (fun _ _ e => e)⟩
              | some tp =>
                have HPD := Lib.hid hpd
                have HTPL := Lib.hid (dec_len hpd)
                simp only [Option.getD_some, Option.isSome_some]
                clear hpd
                go_upto_region 17 with fail
                have hT : (fun _ : World => True) w10.drew := trivial
                refine wp_region_till (fun _ => True) 8 (by kernel_rfl) ?_
                refine till_pure (i := 0) (v := strV t1) rfl (by kernel_rfl) (by kernel_rfl) (fun _ _ _ h => h) (.inl ⟨by rfl, fun W hW => exec_move rfl rfl⟩) hT ?_
                simp only [Act.put, List.setIfInBounds_toArray, List.set_cons_zero, List.set_cons_succ]
                refine till_pure (i := 1) (v := strV tp) rfl (by kernel_rfl) (by kernel_rfl) (fun _ _ _ h => h) (.inl ⟨by rfl, fun W hW => exec_move rfl rfl⟩) hT ?_
                simp only [Act.put, List.setIfInBounds_toArray, List.set_cons_zero, List.set_cons_succ]
                refine till_pure (i := 2) (v := strV (t1 ++ tp)) rfl (by kernel_rfl) (by kernel_rfl) (fun _ _ _ h => h) (.inl ⟨by rfl, fun W hW => exec_sadd rfl rfl rfl (by have h1 := HTL.out; have h2 := HTPL.out; have h3 := HP8.out; have h4 := HLT.out; have h5 := HPS.out; rw [List.length_take] at h2; omega)⟩) hT ?_
                simp only [Act.put, List.setIfInBounds_toArray, List.set_cons_zero, List.set_cons_succ]
                refine till_pure (i := 3) (v := .slice A' n' c') rfl (by kernel_rfl) (by kernel_rfl) (fun _ _ _ h => h) (.inl ⟨by rfl, fun W hW => exec_move rfl rfl⟩) hT ?_
                simp only [Act.put, List.setIfInBounds_toArray, List.set_cons_zero, List.set_cons_succ]
                refine till_pure (i := 4) (v := .int .i64 (ps8 : Int)) rfl (by kernel_rfl) (by kernel_rfl) (fun _ _ _ h => h) (.inl ⟨by rfl, fun W hW => exec_move rfl rfl⟩) hT ?_
                simp only [Act.put, List.setIfInBounds_toArray, List.set_cons_zero, List.set_cons_succ]
                refine till_pure (i := 5) (v := .slice (fromA A' c' ps8) (n' - ps8) (c' - ps8)) rfl (by kernel_rfl) (by kernel_rfl) (fun _ _ _ h => h) (.inl ⟨by rfl, fun W hW => exec_slice rfl rfl rfl rfl rfl (slice_from_any A' n' c' ps8 (by have h1 := HSL2.out; have h2 := HBS.out.1; omega) HNC.out W)⟩) hT ?_
                simp only [Act.put, List.setIfInBounds_toArray, List.set_cons_zero, List.set_cons_succ]
                refine till_pure (i := 6) (v := strV (t1 ++ tp)) rfl (by kernel_rfl) (by kernel_rfl) (fun _ _ _ h => h) (.inl ⟨by rfl, fun W hW => exec_assign rfl rfl⟩) hT ?_
                simp only [Act.put, List.setIfInBounds_toArray, List.set_cons_zero, List.set_cons_succ]
                refine till_pure (i := 7) (v := .slice (fromA A' c' ps8) (n' - ps8) (c' - ps8)) rfl (by kernel_rfl) (by kernel_rfl) (fun _ _ _ h => h) (.inl ⟨by rfl, fun W hW => exec_assign rfl rfl⟩) hT ?_
                simp only [Act.put, List.setIfInBounds_toArray, List.set_cons_zero]
                refine till_done (by kernel_rfl) ?_
                refine NoPanic.normal ?_
                clear hT
                go_wp2_with fail
                go_roundg (gk - 1)
                case measure => have := HKL.out; have := HLT.out; omega
                case rel =>
                  refine ⟨k + 1, n' - ps8, c' - ps8, fromA A' c' ps8, b2.drop ps8, t1 ++ tp, by have := HKL.out; have := HLT.out; omega, by go_num, rfl, rfl, ?_, by have := HNC.out; omega, ?_, ?_, ?_, ?_, HT10.out.drew⟩
                  · exact bs_from (bs_turn HBS.out HT9.out.drew) (by have h1 := HSL2.out; have h2 := HBS.out.1; omega) HNC.out
                  · rw [HD.out.2.1, List.length_drop]
                    have h1 := HSL2.out
                    omega
                  · rw [HD.out.2.1, HDEC2.out, HDC.out, HPD.out]
                    cases decAll r (b2.drop ps8) <;> simp
                  · rw [HD.out.2.1, List.drop_drop]
                    exact HDROP2.out
                  · have h1 := HTL.out
                    have h2 := HTPL.out
                    have h3 := HP8.out
                    rw [List.length_take] at h2
                    rw [List.length_append]
                    omega
          · have hke : k = np := by have := HKL.out; omega
            have y1 : ¬ ((k : Int) < (np : Int)) := by omega
            have h1 := HDEC.out
            have h2 := HDROP.out
            have hdr : ps.drop k = [] := List.drop_of_length_le (by rw [HNP.out, hke]; exact Nat.le_refl _)
            rw [hdr] at h1 h2
            rw [show sizeAll [] = 0 from rfl, List.drop_zero] at h2
            have HDONE := Lib.hid (show takeAll ps b = .ok (t1, b2) from by
              rw [HRES.out, h1, ← h2]
              simp [decAll])
            clear hlt hke h1 h2 hdr
            go_wp2_with fail
            go_ret3
            rw [HDONE.out]
            exact ⟨⟨A', n', c', rfl, HBS.out, HNC.out⟩, HTR.out.trans HTR2.out (fun _ _ e => e)⟩
end Go.Proofs.YtgdlidjjogoiaaaGreatDoor
