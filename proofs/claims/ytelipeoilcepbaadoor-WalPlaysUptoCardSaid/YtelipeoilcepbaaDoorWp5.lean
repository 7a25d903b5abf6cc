/-
  Texts in one file: WlH CrcMath CrcBits CrcMore. Conditions: the tables and the errors read as the program's text lays them.
-/
import Derived.Test.YtelipeoilcepbaaDoorWp4
import Derived.WalkKit
import Derived.Laws.BitsAllLaws
import Derived.Lib.Hide
import Derived.Test.YtelipeoilcepbaaDoorProg
import Derived.Test.YtelipeoilcepbaaDoorWp0
namespace Go.Proofs.YtelipeoilcepbaaDoor
open Go.RowKit
open Wl (B8)
set_option linter.unusedVariables false
set_option linter.unusedSimpArgs false
set_option maxRecDepth 20000
def stA (s : Wl.Stamp) : Array Value := #[.int .i64 (s.age : Int), .int .i64 (s.no : Int), .int .i64 (s.cost : Int), .int .i64 (s.sum : Int)]
theorem stA_one (s : Wl.Stamp) : ∀ v ∈ (stA s).toList, v.oneCell' = true := fun v hv => by
  simp [stA] at hv; rcases hv with rfl | rfl | rfl | rfl <;> rfl
theorem size_st : (Tryd.prog.info? 67).map (·.size) = some 4 := by kernel_rfl
theorem size_tag : (Tryd.prog.info? 95).map (·.size) = some 12 := by kernel_rfl
theorem zero_st (w : World) : (zeroValue 67).run Tryd.prog w = .ok (.agg (stA ⟨0, 0, 0, 0⟩)) w := by kernel_rfl
theorem zero_tag (w : World) : (zeroValue 95).run Tryd.prog w = .ok (.agg (byteCells (List.replicate 12 0))) w := by kernel_rfl
theorem box_st (s : Wl.Stamp) (w : World) : (Instr.box 67 (.agg (stA s))).run Tryd.prog w = .ok (.pointer (some ⟨w.heap.size, 0, none⟩)) (w.alloc (.cells (stA s) 67)) := by
  simp [Instr.box, newVar, newRow, Result.andThen, Value.cells]
theorem box_tag (t : B8) (w : World) : (Instr.box 95 (.agg (byteCells t))).run Tryd.prog w = .ok (.pointer (some ⟨w.heap.size, 0, none⟩)) (w.alloc (.cells (byteCells t) 95)) := by
  simp [Instr.box, newVar, newRow, Result.andThen, Value.cells]
theorem build_tag (a b : Int) (W : World) : (Instr.build 95 #[(0, .int .u8 a), (1, .int .u8 b)]).run Tryd.prog W = .ok (.agg #[.int .u8 a, .int .u8 b, .int .u8 0, .int .u8 0, .int .u8 0, .int .u8 0, .int .u8 0, .int .u8 0, .int .u8 0, .int .u8 0, .int .u8 0, .int .u8 0]) W := by kernel_rfl
theorem build_tagB (x y : UInt8) (W : World) : (Instr.build 95 #[(0, .int .u8 (x.toNat : Int)), (1, .int .u8 (y.toNat : Int))]).run Tryd.prog W = .ok (.agg (byteCells ([x, y] ++ List.replicate 10 0))) W := (build_tag _ _ W).trans rfl
theorem put_age (x y : UInt8) (n : Nat) : putB ([x, y] ++ List.replicate 10 0) 2 4 n = [x, y] ++ Wl.be4 n ++ List.replicate 6 0 := by
  simp only [putB, Wl.be4, Nat.div_div_eq_div_mul]; rfl
theorem put_no (x y : UInt8) (m n : Nat) : putB ([x, y] ++ Wl.be4 m ++ List.replicate 6 0) 6 4 n = [x, y] ++ Wl.be4 m ++ Wl.be4 n ++ List.replicate 2 0 := by
  simp only [putB, Wl.be4, Nat.div_div_eq_div_mul]; rfl
theorem put_sum (x y : UInt8) (m n k : Nat) : putB ([x, y] ++ Wl.be4 m ++ Wl.be4 n ++ List.replicate 2 0) 10 2 k = [x, y] ++ Wl.be4 m ++ Wl.be4 n ++ Wl.be2 k := by
  simp only [putB, Wl.be4, Wl.be2, Nat.div_div_eq_div_mul]; rfl
theorem build_st (a b c d : Int) (W : World) : (Instr.build 67 #[(0, .int .i64 a), (1, .int .i64 b), (2, .int .i64 c), (3, .int .i64 d)]).run Tryd.prog W = .ok (.agg #[.int .i64 a, .int .i64 b, .int .i64 c, .int .i64 d]) W := by kernel_rfl
theorem bc_one (t : B8) : ∀ v ∈ (byteCells t).toList, v.oneCell' = true := fun v hv => by
  refine bcs_one t v ?_
  simpa [byteCells, bcs] using hv
theorem bc_size (t : B8) : (byteCells t).size = t.length := by simp [byteCells]
theorem blk_bs {w : World} {g : Nat} {T : TypeId} {bs : B8} (h : Blk w g T (byteCells bs)) {off k : Nat} (hk : off + k ≤ bs.length) (hm : k ≤ maxLen) : Bs w (some ⟨g, off, none⟩) k ((bs.drop off).take k) := by
  refine ⟨by rw [List.length_take, List.length_drop]; omega, hm, fun _ => ⟨g, off, rfl, fun i hi => ?_⟩⟩
  rw [h.cell, byteCells_at bs (off + i) (by omega)]
  congr 3
  rw [List.getD_eq_getElem?_getD, List.getD_eq_getElem?_getD, List.getElem?_take, if_pos hi, List.getElem?_drop]
theorem bs_sub {w : World} {b off n : Nat} {bs : B8} (h : Bs w (some ⟨b, off, none⟩) n bs) {i k : Nat} (hk : i + k ≤ n) : Bs w (some ⟨b, off + i, none⟩) k ((bs.drop i).take k) := by
  have hl := h.1
  refine ⟨by rw [List.length_take, List.length_drop]; omega, by have := h.2.1; omega, fun hp => ⟨b, off + i, rfl, fun j hj => ?_⟩⟩
  obtain ⟨b', o', e, hc⟩ := h.2.2 (by omega)
  injection e with e
  injection e with e1 e2
  subst e1 e2
  have := hc (i + j) (by omega)
  rw [← Nat.add_assoc] at this
  rw [this]
  congr 3
  rw [List.getD_eq_getElem?_getD, List.getD_eq_getElem?_getD, List.getElem?_take, if_pos hj, List.getElem?_drop]
theorem bs_range {w : World} {b off n : Nat} {bs : B8} (h : Bs w (some ⟨b, off, none⟩) n bs) : w.rangeAt b off (bcs bs) := fun j v hv => by
  have hj : j < bs.length := by have := (List.getElem?_eq_some_iff.1 hv).1; rwa [bcs_length] at this
  obtain ⟨b', o', e, hc⟩ := h.2.2 (by have := h.1; omega)
  injection e with e
  injection e with e1 e2
  subst e1 e2
  rw [bcs_at bs j hj] at hv
  injection hv with hv
  subst hv
  exact hc j (by have := h.1; omega)
theorem Bs.still {w w' : World} {A : Option Addr} {n : Nat} {bs : B8} (h : Bs w A n bs) (ht : Turn nowhere w w') : Bs w' A n bs := bs_below h (ht.below (Nat.le_refl _) fun _ _ e => e)
theorem Bs.turn {w w' : World} {A : Option Addr} {n : Nat} {bs : B8} {F : Nat → Prop} (h : Bs w A n bs) (ht : Turn F w w') (hn : ∀ b off, 0 < n → A = some ⟨b, off, none⟩ → ¬ F b) : Bs w' A n bs := by
  refine ⟨h.1, h.2.1, fun hp => ?_⟩
  obtain ⟨b, off, e, hc⟩ := h.2.2 hp
  refine ⟨b, off, e, fun i hi => ?_⟩
  rw [ht.cell (World.block_lt_of_cell? _ _ (hc i hi)) (hn b off hp e)]
  exact hc i hi
theorem range_turn {w w' : World} {b off : Nat} {xs : List Value} {F : Nat → Prop} (h : w.rangeAt b off xs) (ht : Turn F w w') (hn : ¬ F b) : w'.rangeAt b off xs := fun j v hv => by
  have hc := h j v hv
  rw [ht.cell (World.block_lt_of_cell? _ _ hc) hn]
  exact hc
section
variable {a : Act} {o : Oper} {W : World} {x y z : Operand}
theorem wx_shrh {n h : Nat} {tu : TypeId} (ho : o.op = .binOp .shr 3 x y tu) (hx : a.eval x = .int .i64 (n : Int)) (hy : a.eval y = .int .i64 (16 * (1 - ((h % 2 : Nat) : Int)))) (hn : n ≤ 9223372036854775807) : (execOp a.eval o).run Tryd.prog W = .ok (.value (.int .i64 ((Wl.hs n h : Nat) : Int))) W := by
  unfold execOp Wl.hs
  rcases Nat.mod_two_eq_zero_or_one h with e | e
  · rw [e] at hy ⊢
    simp only [ho, hx, hy, if_true]
    go_simp
  · rw [e] at hy ⊢
    simp only [ho, hx, hy]
    go_simp
theorem eqItems_bytes (d : Nat) (a b : B8) (W : World) : ∀ is : List Nat, (∀ i ∈ is, i < a.length ∧ i < b.length) → (Op.eqItems (d + 1) 5 (Tryd.prog.cellsOf 5) (byteCells a) (byteCells b) is).run Tryd.prog W = .ok (is.all fun i => a.getD i 0 == b.getD i 0) W
  | [], _ => by simp [Op.eqItems]
  | i :: is, h => by
    have hc : Tryd.prog.cellsOf 5 = 1 := by kernel_rfl
    obtain ⟨h1, h2⟩ := h i (List.mem_cons_self ..)
    have p1 : (part 5 (byteCells a) (i * Tryd.prog.cellsOf 5)).run Tryd.prog W = .ok (.int .u8 ((a.getD i 0).toNat : Int)) W := by
      rw [hc, Nat.mul_one]
      have := byteCells_at a i h1
      simp [part, run_isAgg_plain (P := Tryd.prog) (ty := 5) (by kernel_rfl) W, this, Result.andThen]
    have p2 : (part 5 (byteCells b) (i * Tryd.prog.cellsOf 5)).run Tryd.prog W = .ok (.int .u8 ((b.getD i 0).toNat : Int)) W := by
      rw [hc, Nat.mul_one]
      have := byteCells_at b i h2
      simp [part, run_isAgg_plain (P := Tryd.prog) (ty := 5) (by kernel_rfl) W, this, Result.andThen]
    have p3 : (Op.equalIn (d + 1) 5 (.int .u8 ((a.getD i 0).toNat : Int)) (.int .u8 ((b.getD i 0).toNat : Int))).run Tryd.prog W = .ok (a.getD i 0 == b.getD i 0) W := by
      rw [run_equalIn_int W d _ .u8 _ _ _ Tryd.underlying5]
      congr 1
      rw [Bool.eq_iff_iff]
      simp only [beq_iff_eq]
      exact ⟨fun e => UInt8.toNat_inj.1 (by omega), fun e => by rw [e]⟩
    simp only [Op.eqItems, Sem.run_bind, p1, p2, p3, Result.andThen_ok, List.all_cons]
    cases (a.getD i 0 == b.getD i 0) with
    | false => simp
    | true =>
      simp only [Bool.not_true, Bool.true_and, Bool.false_eq_true, if_false]
      exact eqItems_bytes d a b W is fun j hj => h j (List.mem_cons_of_mem _ hj)
theorem all_eq {a b : B8} {n : Nat} (ha : a.length = n) (hb : b.length = n) : ((List.range n).all fun i => a.getD i 0 == b.getD i 0) = decide (a = b) := by
  rw [Bool.eq_iff_iff]
  simp only [List.all_eq_true, List.mem_range, beq_iff_eq, decide_eq_true_eq]
  constructor
  · intro h
    refine List.ext_getElem (by omega) fun i h1 h2 => ?_
    have := h i (by omega)
    rwa [List.getD_eq_getElem?_getD, List.getElem?_eq_getElem h1, List.getD_eq_getElem?_getD, List.getElem?_eq_getElem h2] at this
  · rintro rfl i _
    rfl
theorem tag_neq {u : TypeId} {s t : B8} (ho : o.op = .binOp .neq 95 x y u) (hx : a.eval x = .agg (byteCells s)) (hy : a.eval y = .agg (byteCells t)) (hs : s.length = 12) (ht : t.length = 12) : (execOp a.eval o).run Tryd.prog W = .ok (.value (.bool (!decide (s = t)))) W := by
  obtain ⟨i0, hi1, hi2⟩ := Option.map_eq_some_iff.1 size_u8
  have hg : Tryd.prog.eqGuardType Tryd.prog.depth 95 = false := by kernel_rfl
  have he : (Op.equal 95 (.agg (byteCells s)) (.agg (byteCells t))).run Tryd.prog W = .ok (decide (s = t)) W := by
    show (Op.equalIn (9998 + 1 + 1) 95 (.agg (byteCells s)) (.agg (byteCells t))).run Tryd.prog W = _
    rw [run_equalIn_array W (9998 + 1) _ _ Tryd.underlying95 hi1, eqItems_bytes 9998 s t W (List.range 12) fun i hi => by have := List.mem_range.1 hi; omega, all_eq hs ht]
  unfold execOp
  simp [ho, hx, hy, eqGuard, hg, binOp, he, Result.andThen]
end
theorem wx_r2 {a : Act} {o : Oper} {W : World} {x : Operand} {n : Nat} (ho : o.op = .binOp .rem 3 x (.const (.int .i64 2)) 3) (hx : a.eval x = .int .i64 (n : Int)) (hn : n ≤ 9223372036854775807) : (execOp a.eval o).run Tryd.prog W = .ok (.value (.int .i64 ((n % 2 : Nat) : Int))) W := by
  unfold execOp
  simp only [ho, hx]
  go_simp
  exact Int.tmod_eq_emod_of_nonneg (by omega)
set_option maxRecDepth 20000 in
set_option maxHeartbeats 4000000 in
theorem tag_walk (w : World) (s : Wl.Stamp) (h : Nat) (ha : s.age ≤ 9223372036854775807) (hn : s.no ≤ 9223372036854775807) (hc : s.cost ≤ 9223372036854775807) (hs : s.sum ≤ 9223372036854775807) (hh : h ≤ 1000000) :
    Calls Tryd.prog 51 #[.agg (stA s), .int .i64 (h : Int)] w fun r w' => r = .returned (.agg (byteCells (s.tag h))) ∧ Turn nowhere w w' := by
  have HS := Lib.hid hs
  have HH := Lib.hid (show Wl.hs s.sum h ≤ 9223372036854775807 by unfold Wl.hs; split <;> omega)
  go_enter Tryd.func51, Tryd.ntmps51
  go_upto_region 0 with fail
  refine wp_region_lit ?_
  refine wpList_run (v := .pointer (some ⟨(w).heap.size, 0, none⟩)) (w' := (w).alloc (.cells (stA s) 67)) (wanted_none rfl) (gx_box rfl rfl (box_st s _)) ?_;simp only [zz];refine wpList_run (v := .pointer (some ⟨((w).alloc (.cells (stA s) 67)).heap.size, 0, none⟩)) (w' := ((w).alloc (.cells (stA s) 67)).alloc (.cells (byteCells (List.replicate 12 0)) 95)) (wanted_none rfl) (gx_alloc rfl (zero_tag _)) ?_;simp only [zz]
  have hb_b := (Blk.new (w) 67 (stA s)).alloc (.cells (byteCells (List.replicate 12 0)) 95)
  have hb_r := Blk.new ((w).alloc (.cells (stA s) 67)) 95 (byteCells (List.replicate 12 0))
  have ht_ := ((Turn.refl nowhere (w)).alloc (.cells (stA s) 67)).alloc (.cells (byteCells (List.replicate 12 0)) 95)
  obtain ⟨n0_, hn0_⟩ : ∃ n, n = (w).heap.size := ⟨_, rfl⟩
  have hz_b : (w).heap.size = n0_ + 0 := by rw [hn0_]; simp
  have hz_r : ((w).alloc (.cells (stA s) 67)).heap.size = n0_ + 1 := by rw [hn0_]; simp
  obtain ⟨r, hg_⟩ : ∃ g, g = ((w).alloc (.cells (stA s) 67)).heap.size := ⟨_, rfl⟩
  rw [← hg_] at hb_r hz_r ⊢
  clear hg_
  obtain ⟨b, hg_⟩ : ∃ g, g = (w).heap.size := ⟨_, rfl⟩
  rw [← hg_] at hb_b hz_b ⊢
  clear hg_
  generalize ((w).alloc (.cells (stA s) 67)).alloc (.cells (byteCells (List.replicate 12 0)) 95) = w1 at *
  have HT1 := Lib.hid ht_
  clear ht_
  have HBb := Lib.hid hb_b
  have HLb := Lib.hid (show (w).heap.size ≤ b from by omega)
  clear hb_b
  have HBr := Lib.hid hb_r
  have HLr := Lib.hid (show (w).heap.size ≤ r from by omega)
  clear hb_r
  have HNbr := Lib.hid (show b ≠ r from by omega)
  clear hn0_ hz_b hz_r
  clear n0_
  go_upto_region 1 with fail
  refine wp_region_lit ?_
  refine nR (.int .i64 (h : Int)) (exec_move rfl rfl) ?_;simp only [zz];refine nR (.int .u8 (((UInt8.ofNat h).toNat : Nat) : Int)) (ix_i2b rfl rfl) ?_;simp only [zz];refine nR (.pointer (some ⟨b, 2, none⟩)) (exec_field (off := 0) (d := 2) rfl rfl (by kernel_rfl)) ?_;simp only [zz];refine nR (.int .i64 (s.cost : Int)) (exec_load1 rfl rfl (by kernel_rfl) (HBb.out.cell 2)) ?_;simp only [zz];refine nR (.int .u8 (((UInt8.ofNat s.cost).toNat : Nat) : Int)) (ix_i2b rfl rfl) ?_;simp only [zz];refine nR (.agg (byteCells ([UInt8.ofNat h, UInt8.ofNat s.cost] ++ List.replicate 10 0))) (gx_build2 rfl rfl rfl (build_tagB _ _ _)) ?_;simp only [zz];refine wpList_run (v := .pointer (some ⟨w1.heap.size, 0, none⟩)) (w' := w1.alloc (.cells (byteCells (List.replicate 12 0)) 95)) (wanted_none rfl) (gx_alloc rfl (zero_tag _)) ?_;simp only [zz]
  have hb_ := Blk.new w1 95 (byteCells (List.replicate 12 0))
  have ht_ := (Turn.refl nowhere w1).alloc (.cells (byteCells (List.replicate 12 0)) 95)
  obtain ⟨t, hg_⟩ : ∃ g, g = w1.heap.size := ⟨_, rfl⟩
  rw [← hg_] at hb_ ⊢
  have HLt := Lib.hid (show w1.heap.size ≤ t from by omega)
  clear hg_
  generalize w1.alloc (.cells (byteCells (List.replicate 12 0)) 95) = w2 at *
  have HBt := Lib.hid hb_
  have HT2 := Lib.hid ht_
  clear hb_ ht_
  refine wpList_store_row (wanted_none rfl) 95 (.tmp 5) (.tmp 11) rfl (byteCells ([UInt8.ofNat h, UInt8.ofNat s.cost] ++ List.replicate 10 0)) HBt.out rfl rfl (rfl) (by rw [size_tag] <;> rfl) (bc_one _) ?_
  intro w3 hb_ ht_
  have HBt3 := Lib.hid hb_
  have HT3 := Lib.hid ht_
  clear hb_ ht_
  simp only [zz]
  have HT23 := Lib.hid (HT2.out.trans HT3.out fun k hk e => by have := HLt.out; have e : k = t := e; omega)
  have HTw := Lib.hid (HT1.out.trans HT23.out fun _ _ e => e)
  have HBb3 := Lib.hid (HBb.out.turn HT23.out fun e => e)
  have HBr3 := Lib.hid (HBr.out.turn HT23.out fun e => e)
  have HNbt := Lib.hid (show b ≠ t from by have := HBb.out.lt; have := HLt.out; omega)
  have HNrt := Lib.hid (show r ≠ t from by have := HBr.out.lt; have := HLt.out; omega)
  have HLtw := Lib.hid (show w.heap.size ≤ t from by have := HLt.out; have := HT1.out.size; omega)
  clear HT1 HT2 HT3 HT23 HBb HBr HBt HLt
  go_upto_region 2 with fail
  refine wp_region_alw (fun W => Blk W b 67 (stA s)) (by kernel_rfl) ?_
  have hS0 : (fun W => Blk W b 67 (stA s)) w3.drew := HBb3.out.drew
  have HD5 := Lib.hid ((Turn.refl nowhere w3).drew)
  generalize w3.drew = wd5 at *
  have HBr5d := Lib.hid (HBr3.out.turn HD5.out fun e => e)
  have HBt5d := Lib.hid (HBt3.out.turn HD5.out fun e => e)
  have HTw5d := Lib.hid (HTw.out.trans HD5.out fun _ _ e => e)
  clear HBr3 HBt3 HTw HBb3 HD5
  refine alw_take (i := 0) (v := .slice (some ⟨t, 2, none⟩) 4 10) rfl (by kernel_rfl) (by kernel_rfl) (fun _ _ _ h => h) (.inl ⟨by rfl, fun W hW => st_lh (i := 2) (j := 6) (by omega) (by omega) (by omega) rfl rfl rfl rfl⟩) hS0 ?_
  simp only [zz]
  refine alw_take (i := 1) (v := .pointer (some ⟨b, 0, none⟩)) rfl (by kernel_rfl) (by kernel_rfl) (fun _ _ _ h => h) (.inl ⟨by rfl, fun W hW => exec_field (off := 0) (d := 0) rfl rfl (by kernel_rfl)⟩) hS0 ?_
  simp only [zz]
  refine alw_take (i := 2) (v := .int .i64 (s.age : Int)) rfl (by kernel_rfl) (by kernel_rfl) (fun _ _ _ h => h) (.inl ⟨by rfl, fun W hW => exec_load1 rfl rfl (by kernel_rfl) (hW.cell 0)⟩) hS0 ?_
  simp only [zz]
  refine alw_step (i := 3) (by kernel_rfl) rfl rfl ?_
  intro K1 HK1
  go_wp2_with fail
  refine (put_walk wd5 t 2 4 10 (s.age) 95 ([UInt8.ofNat h, UInt8.ofNat s.cost] ++ List.replicate 10 0) HBt5d.out (by simp [Wl.be4]) (by decide) (by first | omega | exact HH.out)).mono ?_
  rintro e wp5 ⟨rfl, hr, ht⟩

  refine HK1.out _ _ ⟨hS0.turn ht (fun e => HNbt.out e), ?_⟩
  clear HK1
  try simp only [zz]
  have HBt5 := Lib.hid (show Blk wp5 t 95 (byteCells ([UInt8.ofNat h, UInt8.ofNat s.cost] ++ Wl.be4 s.age ++ List.replicate 6 0)) from (put_age _ _ _) ▸ hr)
  have HBb5 := Lib.hid (hS0.turn ht (fun e => HNbt.out e))
  have HBr5 := Lib.hid (HBr5d.out.turn ht (fun e => HNrt.out e))
  have HTw5 := Lib.hid (HTw5d.out.trans ht fun k hk e => by have := HLtw.out; have e : k = t := e; omega)
  clear hr ht HBt5d HBr5d HTw5d
  refine alw_done rfl ?_
  refine NoPanic.normal ?_
  clear hS0
  try simp only [zz]
  go_upto_region 3 with fail
  refine wp_region_alw (fun W => Blk W b 67 (stA s)) (by kernel_rfl) ?_
  have hS0 : (fun W => Blk W b 67 (stA s)) wp5.drew := HBb5.out.drew
  have HD6 := Lib.hid ((Turn.refl nowhere wp5).drew)
  generalize wp5.drew = wd6 at *
  have HBr6d := Lib.hid (HBr5.out.turn HD6.out fun e => e)
  have HBt6d := Lib.hid (HBt5.out.turn HD6.out fun e => e)
  have HTw6d := Lib.hid (HTw5.out.trans HD6.out fun _ _ e => e)
  clear HBr5 HBt5 HTw5 HBb5 HD6
  refine alw_take (i := 0) (v := .slice (some ⟨t, 6, none⟩) 4 6) rfl (by kernel_rfl) (by kernel_rfl) (fun _ _ _ h => h) (.inl ⟨by rfl, fun W hW => st_lh (i := 6) (j := 10) (by omega) (by omega) (by omega) rfl rfl rfl rfl⟩) hS0 ?_
  simp only [zz]
  refine alw_take (i := 1) (v := .pointer (some ⟨b, 1, none⟩)) rfl (by kernel_rfl) (by kernel_rfl) (fun _ _ _ h => h) (.inl ⟨by rfl, fun W hW => exec_field (off := 0) (d := 1) rfl rfl (by kernel_rfl)⟩) hS0 ?_
  simp only [zz]
  refine alw_take (i := 2) (v := .int .i64 (s.no : Int)) rfl (by kernel_rfl) (by kernel_rfl) (fun _ _ _ h => h) (.inl ⟨by rfl, fun W hW => exec_load1 rfl rfl (by kernel_rfl) (hW.cell 1)⟩) hS0 ?_
  simp only [zz]
  refine alw_step (i := 3) (by kernel_rfl) rfl rfl ?_
  intro K1 HK1
  go_wp2_with fail
  refine (put_walk wd6 t 6 4 6 (s.no) 95 ([UInt8.ofNat h, UInt8.ofNat s.cost] ++ Wl.be4 s.age ++ List.replicate 6 0) HBt6d.out (by simp [Wl.be4]) (by decide) (by first | omega | exact HH.out)).mono ?_
  rintro e wp6 ⟨rfl, hr, ht⟩

  refine HK1.out _ _ ⟨hS0.turn ht (fun e => HNbt.out e), ?_⟩
  clear HK1
  try simp only [zz]
  have HBt6 := Lib.hid (show Blk wp6 t 95 (byteCells ([UInt8.ofNat h, UInt8.ofNat s.cost] ++ Wl.be4 s.age ++ Wl.be4 s.no ++ List.replicate 2 0)) from (put_no _ _ _ _) ▸ hr)
  have HBb6 := Lib.hid (hS0.turn ht (fun e => HNbt.out e))
  have HBr6 := Lib.hid (HBr6d.out.turn ht (fun e => HNrt.out e))
  have HTw6 := Lib.hid (HTw6d.out.trans ht fun k hk e => by have := HLtw.out; have e : k = t := e; omega)
  clear hr ht HBt6d HBr6d HTw6d
  refine alw_done rfl ?_
  refine NoPanic.normal ?_
  clear hS0
  try simp only [zz]
  go_upto_region 4 with fail
  refine wp_region_alw (fun W => Blk W b 67 (stA s)) (by kernel_rfl) ?_
  have hS0 : (fun W => Blk W b 67 (stA s)) wp6.drew := HBb6.out.drew
  have HD7 := Lib.hid ((Turn.refl nowhere wp6).drew)
  generalize wp6.drew = wd7 at *
  have HBr7d := Lib.hid (HBr6.out.turn HD7.out fun e => e)
  have HBt7d := Lib.hid (HBt6.out.turn HD7.out fun e => e)
  have HTw7d := Lib.hid (HTw6.out.trans HD7.out fun _ _ e => e)
  clear HBr6 HBt6 HTw6 HBb6 HD7
  refine alw_take (i := 0) (v := .slice (some ⟨t, 10, none⟩) 2 2) rfl (by kernel_rfl) (by kernel_rfl) (fun _ _ _ h => h) (.inl ⟨by rfl, fun W hW => st_l (i := 10) (by omega) rfl rfl rfl⟩) hS0 ?_
  simp only [zz]
  refine alw_take (i := 1) (v := .pointer (some ⟨b, 3, none⟩)) rfl (by kernel_rfl) (by kernel_rfl) (fun _ _ _ h => h) (.inl ⟨by rfl, fun W hW => exec_field (off := 0) (d := 3) rfl rfl (by kernel_rfl)⟩) hS0 ?_
  simp only [zz]
  refine alw_take (i := 2) (v := .int .i64 (s.sum : Int)) rfl (by kernel_rfl) (by kernel_rfl) (fun _ _ _ h => h) (.inl ⟨by rfl, fun W hW => exec_load1 rfl rfl (by kernel_rfl) (hW.cell 3)⟩) hS0 ?_
  simp only [zz]
  refine alw_take (i := 3) (v := .int .i64 (h : Int)) rfl (by kernel_rfl) (by kernel_rfl) (fun _ _ _ h => h) (.inl ⟨by rfl, fun W hW => exec_move rfl rfl⟩) hS0 ?_
  simp only [zz]
  refine alw_take (i := 4) (v := .int .i64 ((h % 2 : Nat) : Int)) rfl (by kernel_rfl) (by kernel_rfl) (fun _ _ _ h => h) (.inl ⟨by rfl, fun W hW => wx_r2 rfl rfl (by omega)⟩) hS0 ?_
  simp only [zz]
  refine alw_take (i := 5) (v := .int .i64 (1 - ((h % 2 : Nat) : Int))) rfl (by kernel_rfl) (by kernel_rfl) (fun _ _ _ h => h) (.inl ⟨by rfl, fun W hW => ix_sub rfl rfl rfl (by omega) (by omega)⟩) hS0 ?_
  simp only [zz]
  refine alw_take (i := 6) (v := .int .i64 (16 * (1 - ((h % 2 : Nat) : Int)))) rfl (by kernel_rfl) (by kernel_rfl) (fun _ _ _ h => h) (.inl ⟨by rfl, fun W hW => ix_mul rfl rfl rfl (by omega) (by omega)⟩) hS0 ?_
  simp only [zz]
  refine alw_take (i := 7) (v := .int .i64 ((Wl.hs s.sum h : Nat) : Int)) rfl (by kernel_rfl) (by kernel_rfl) (fun _ _ _ h => h) (.inl ⟨by rfl, fun W hW => wx_shrh rfl rfl rfl HS.out⟩) hS0 ?_
  simp only [zz]
  refine alw_step (i := 8) (by kernel_rfl) rfl rfl ?_
  intro K1 HK1
  go_wp2_with fail
  refine (put_walk wd7 t 10 2 2 (Wl.hs s.sum h) 95 ([UInt8.ofNat h, UInt8.ofNat s.cost] ++ Wl.be4 s.age ++ Wl.be4 s.no ++ List.replicate 2 0) HBt7d.out (by simp [Wl.be4]) (by decide) (by first | omega | exact HH.out)).mono ?_
  rintro e wp7 ⟨rfl, hr, ht⟩

  refine HK1.out _ _ ⟨hS0.turn ht (fun e => HNbt.out e), ?_⟩
  clear HK1
  try simp only [zz]
  have HBt7 := Lib.hid (show Blk wp7 t 95 (byteCells (s.tag h)) from (show putB ([UInt8.ofNat h, UInt8.ofNat s.cost] ++ Wl.be4 s.age ++ Wl.be4 s.no ++ List.replicate 2 0) 10 2 (Wl.hs s.sum h) = s.tag h from put_sum _ _ _ _ _) ▸ hr)
  have HBb7 := Lib.hid (hS0.turn ht (fun e => HNbt.out e))
  have HBr7 := Lib.hid (HBr7d.out.turn ht (fun e => HNrt.out e))
  have HTw7 := Lib.hid (HTw7d.out.trans ht fun k hk e => by have := HLtw.out; have e : k = t := e; omega)
  clear hr ht HBt7d HBr7d HTw7d
  refine alw_done rfl ?_
  refine NoPanic.normal ?_
  clear hS0
  try simp only [zz]
  go_upto_region 5 with fail
  refine wp_region_lit ?_
  refine nR (.agg (byteCells (s.tag h))) (gx_loads rfl rfl (blk_range HBt7.out) Tryd.underlying95 rfl (by rw [size_tag]; rfl)) ?_;simp only [zz]
  refine wpList_store_row (wanted_none rfl) 95 (.tmp 4) (.tmp 29) rfl (byteCells (s.tag h)) HBr7.out rfl rfl (rfl) (by rw [size_tag] <;> rfl) (bc_one _) ?_
  intro w8 hb_ ht_
  have HBr8 := Lib.hid hb_
  have HT8 := Lib.hid ht_
  clear hb_ ht_
  simp only [zz]
  go_wp2_with fail
  refine bodyPost_ret (v := .agg (byteCells (s.tag h))) (ret_cell1 rfl _ _ r _ _ _ rfl HBr8.out Tryd.underlying95 rfl (by rw [size_tag] <;> rfl)) rfl ?_
  exact ⟨rfl, HTw7.out.trans HT8.out fun k hk e => by have := HLr.out; have e : k = r := e; omega⟩
end Go.Proofs.YtelipeoilcepbaaDoor
namespace Go.Proofs.YtelipeoilcepbaaDoor.Crc
def S (r : BitVec 32) : BitVec 32 := (r >>> 1) ^^^ (if r.getLsbD 0 then 0x82f63b78#32 else 0#32)
def S4 (r : BitVec 32) : BitVec 32 := S (S (S (S r)))
def S8 (r : BitVec 32) : BitVec 32 := S4 (S4 r)

theorem xor4 (a b c d : BitVec 32) : (a ^^^ b) ^^^ (c ^^^ d) = (a ^^^ c) ^^^ (b ^^^ d) := by
  ext i
  simp only [BitVec.getElem_xor]
  cases a[i] <;> cases b[i] <;> cases c[i] <;> cases d[i] <;> rfl

theorem S_xor (a b : BitVec 32) : S (a ^^^ b) = S a ^^^ S b := by
  unfold S
  rw [BitVec.ushiftRight_xor_distrib, BitVec.getLsbD_xor, xor4]
  congr 1
  cases a.getLsbD 0 <;> cases b.getLsbD 0 <;> decide
theorem S_zero : S 0#32 = 0#32 := by decide
theorem S4_xor (a b : BitVec 32) : S4 (a ^^^ b) = S4 a ^^^ S4 b := by simp only [S4, S_xor]
theorem S_even (a : BitVec 32) (h : a.getLsbD 0 = false) : S a = a >>> 1 := by
  unfold S; rw [h]; simp

theorem S_inj0 (a : BitVec 32) (h : S a = 0#32) : a = 0#32 := by
  have h31 : (S a).getLsbD 31 = a.getLsbD 0 := by
    unfold S
    rw [BitVec.getLsbD_xor, BitVec.getLsbD_ushiftRight]
    have : a.getLsbD (1 + 31) = false := BitVec.getLsbD_of_ge a _ (by omega)
    rw [this]
    cases a.getLsbD 0 <;> decide
  have h0 : a.getLsbD 0 = false := by rw [← h31, h]; simp
  rw [S_even a h0] at h
  apply BitVec.eq_of_getLsbD_eq
  intro i hi
  cases i with
  | zero => simpa using h0
  | succ i =>
    have := congrArg (fun x => BitVec.getLsbD x i) h
    simp only [BitVec.getLsbD_ushiftRight] at this
    rw [Nat.add_comm]
    simpa using this

theorem S4_shift (a : BitVec 32) (h : ∀ i, i < 4 → a.getLsbD i = false) : S4 a = a >>> 4 := by
  unfold S4
  rw [S_even a (h 0 (by omega))]
  rw [S_even (a >>> 1) (by rw [BitVec.getLsbD_ushiftRight]; exact h 1 (by omega))]
  rw [S_even (a >>> 1 >>> 1) (by rw [BitVec.getLsbD_ushiftRight, BitVec.getLsbD_ushiftRight]; exact h 2 (by omega))]
  rw [S_even (a >>> 1 >>> 1 >>> 1) (by rw [BitVec.getLsbD_ushiftRight, BitVec.getLsbD_ushiftRight, BitVec.getLsbD_ushiftRight]; exact h 3 (by omega))]
  simp only [← BitVec.shiftRight_add]
def tab : List Nat := [0, 274646895, 549293790, 820201905, 1098587580, 1361435347, 1640403810, 1905808397, 2197175160, 2460548119, 2722870694, 2987750089, 3280807620, 3553878443, 3811616794, 4084100981]
def T (r : BitVec 32) : BitVec 32 := (r >>> 4) ^^^ BitVec.ofNat 32 (tab.getD (r.toNat % 16) 0)

theorem S4_tab : ∀ k : Fin 16, S4 (BitVec.ofNat 32 k.val) = BitVec.ofNat 32 (tab.getD k.val 0) := by decide

theorem split4 (r : BitVec 32) : r = ((r >>> 4) <<< 4) ^^^ BitVec.ofNat 32 (r.toNat % 16) := by
  apply BitVec.eq_of_getLsbD_eq
  intro i hi
  rw [BitVec.getLsbD_xor, BitVec.getLsbD_shiftLeft, BitVec.getLsbD_ushiftRight, BitVec.getLsbD_ofNat]
  have h16 : (r.toNat % 16).testBit i = (decide (i < 4) && r.toNat.testBit i) := Nat.testBit_mod_two_pow r.toNat 4 i
  rw [h16]
  have : r.toNat.testBit i = r.getLsbD i := rfl
  rw [this]
  by_cases h : i < 4
  · simp [h, hi]
  · have : 4 + (i - 4) = i := by omega
    simp [h, hi, this]

theorem T_eq (r : BitVec 32) : T r = S4 r := by
  have h := S4_tab ⟨r.toNat % 16, by omega⟩
  simp only at h
  rw [show S4 r = S4 (((r >>> 4) <<< 4) ^^^ BitVec.ofNat 32 (r.toNat % 16)) from by rw [← split4], S4_xor, h, S4_shift _ (fun i hi => by rw [BitVec.getLsbD_shiftLeft]; simp [hi])]
  unfold T
  congr 1
  apply BitVec.eq_of_getLsbD_eq
  intro i hi
  rw [BitVec.getLsbD_ushiftRight, BitVec.getLsbD_ushiftRight, BitVec.getLsbD_shiftLeft, BitVec.getLsbD_ushiftRight]
  have : 4 + i - 4 = i := by omega
  by_cases h32 : 4 + i < 32
  · simp [h32, this]
  · rw [BitVec.getLsbD_of_ge r (4 + i) (by omega)]; simp [h32]

def wide (x : UInt8) : BitVec 32 := BitVec.ofNat 32 x.toNat
def B (r : BitVec 32) (x : UInt8) : BitVec 32 := S8 (r ^^^ wide x)
def reg (r : BitVec 32) (bs : List UInt8) : BitVec 32 := bs.foldl B r
def more (s : BitVec 32) (bs : List UInt8) : BitVec 32 := ~~~ (reg (~~~ s) bs)
def sum (bs : List UInt8) : BitVec 32 := more 0#32 bs

theorem B_T (r : BitVec 32) (x : UInt8) : B r x = T (T (r ^^^ wide x)) := by rw [T_eq, T_eq]; rfl
theorem reg_nil (r : BitVec 32) : reg r [] = r := rfl
theorem reg_append (r : BitVec 32) (a b : List UInt8) : reg r (a ++ b) = reg (reg r a) b := List.foldl_append
theorem reg_snoc (r : BitVec 32) (a : List UInt8) (x : UInt8) : reg r (a ++ [x]) = B (reg r a) x := by rw [reg_append]; rfl
theorem more_nil (s : BitVec 32) : more s [] = s := by unfold more; rw [reg_nil]; simp
theorem more_append (s : BitVec 32) (a b : List UInt8) : more s (a ++ b) = more (more s a) b := by unfold more; rw [reg_append]; simp
theorem sum_append (a b : List UInt8) : sum (a ++ b) = more (sum a) b := more_append _ _ _

def one (e : Bool) : BitVec 32 := if e then 1#32 else 0#32
def G (r : BitVec 32) (e : Nat → Bool) : Nat → BitVec 32
  | 0 => r
  | m + 1 => S (G r e m ^^^ one (e m))

theorem G_congr (r : BitVec 32) (e f : Nat → Bool) : ∀ m, (∀ k, k < m → e k = f k) → G r e m = G r f m
  | 0, _ => rfl
  | m + 1, h => by
    show S (G r e m ^^^ one (e m)) = S (G r f m ^^^ one (f m))
    rw [G_congr r e f m (fun k hk => h k (by omega)), h m (by omega)]
theorem one_xor (a b : Bool) : one (a ^^ b) = one a ^^^ one b := by cases a <;> cases b <;> decide
theorem G_xor (r s : BitVec 32) (e f : Nat → Bool) : ∀ m, G (r ^^^ s) (fun k => e k ^^ f k) m = G r e m ^^^ G s f m
  | 0 => rfl
  | m + 1 => by
    show S (G (r ^^^ s) (fun k => e k ^^ f k) m ^^^ one (e m ^^ f m)) = S (G r e m ^^^ one (e m)) ^^^ S (G s f m ^^^ one (f m))
    rw [G_xor r s e f m, one_xor, xor4, S_xor]
theorem G_add (r : BitVec 32) (e : Nat → Bool) (m : Nat) : ∀ n, G r e (m + n) = G (G r e m) (fun k => e (m + k)) n
  | 0 => rfl
  | n + 1 => by
    show S (G r e (m + n) ^^^ one (e (m + n))) = S (G (G r e m) (fun k => e (m + k)) n ^^^ one (e (m + n)))
    rw [G_add r e m n]

theorem one_step (r X : BitVec 32) : S (r ^^^ X) = S (r ^^^ one (X.getLsbD 0)) ^^^ (X >>> 1) := by
  have h : X = one (X.getLsbD 0) ^^^ (X ^^^ one (X.getLsbD 0)) := by
    rw [BitVec.xor_comm X, ← BitVec.xor_assoc, BitVec.xor_self]; simp
  have h0 : (X ^^^ one (X.getLsbD 0)).getLsbD 0 = false := by
    rw [BitVec.getLsbD_xor]
    cases X.getLsbD 0 <;> decide
  have h1 : (X ^^^ one (X.getLsbD 0)) >>> 1 = X >>> 1 := by
    rw [BitVec.ushiftRight_xor_distrib]
    have : one (X.getLsbD 0) >>> 1 = 0#32 := by cases X.getLsbD 0 <;> decide
    rw [this]; simp
  rw [show S (r ^^^ X) = S ((r ^^^ one (X.getLsbD 0)) ^^^ (X ^^^ one (X.getLsbD 0))) from by rw [BitVec.xor_assoc, ← h], S_xor, S_even _ h0, h1]

theorem S8_bits (r X : BitVec 32) (hX : X >>> 8 = 0#32) : S8 (r ^^^ X) = G r (fun k => X.getLsbD k) 8 := by
  have e : ∀ k, (X >>> k).getLsbD 0 = X.getLsbD k := fun k => by rw [BitVec.getLsbD_ushiftRight]; rfl
  have s : ∀ k q, S (q ^^^ (X >>> k)) = S (q ^^^ one (X.getLsbD k)) ^^^ (X >>> (k + 1)) := fun k q => by
    rw [one_step, e, ← BitVec.shiftRight_add]
  unfold S8 S4
  have e0 : X = X >>> 0 := by simp
  rw [e0, s 0, s 1, s 2, s 3, s 4, s 5, s 6, s 7, hX]
  simp only [BitVec.xor_zero]
  simp [G]

def bit (bs : List UInt8) (k : Nat) : Bool := (bs.getD (k / 8) 0).toNat.testBit (k % 8)

theorem B_bits (r : BitVec 32) (x : UInt8) : B r x = G r (fun k => x.toNat.testBit k) 8 := by
  unfold B
  have hx : x.toNat < 256 := x.toNat_lt
  rw [S8_bits r (wide x)]
  · apply G_congr
    intro k hk
    unfold wide
    rw [BitVec.getLsbD_ofNat]
    have : k < 32 := by omega
    simp [this]
  · unfold wide
    apply BitVec.eq_of_toNat_eq
    rw [BitVec.toNat_ushiftRight, BitVec.toNat_ofNat, Nat.shiftRight_eq_div_pow]
    simp
    omega

theorem reg_bits (r : BitVec 32) (bs : List UInt8) : ∀ j, j ≤ bs.length → reg r (bs.take j) = G r (bit bs) (8 * j)
  | 0, _ => by simp [reg, G]
  | j + 1, h => by
    rw [List.take_succ_eq_append_getElem (by omega), reg_snoc, reg_bits r bs j (by omega), B_bits, show 8 * (j + 1) = 8 * j + 8 from by omega, G_add]
    apply G_congr
    intro k hk
    unfold bit
    have h1 : (8 * j + k) / 8 = j := by omega
    have h2 : (8 * j + k) % 8 = k := by omega
    rw [h1, h2, List.getD_eq_getElem?_getD, List.getElem?_eq_getElem (by omega)]
    rfl
theorem reg_all (r : BitVec 32) (bs : List UInt8) : reg r bs = G r (bit bs) (8 * bs.length) := by
  rw [← reg_bits r bs bs.length (Nat.le_refl _), List.take_length]

def Sn : Nat → BitVec 32 → BitVec 32
  | 0, r => r
  | n + 1, r => S (Sn n r)
theorem Sn_xor (a b : BitVec 32) : ∀ n, Sn n (a ^^^ b) = Sn n a ^^^ Sn n b
  | 0 => rfl
  | n + 1 => by simp only [Sn, Sn_xor a b n, S_xor]
theorem Sn_inj0 (a : BitVec 32) : ∀ n, Sn n a = 0#32 → a = 0#32
  | 0, h => h
  | n + 1, h => Sn_inj0 a n (S_inj0 _ h)
theorem Sn_zero : ∀ n, Sn n 0#32 = 0#32
  | 0 => rfl
  | n + 1 => by simp only [Sn, Sn_zero n, S_zero]
theorem Sn_one : ∀ j : Fin 32, Sn j.val (BitVec.ofNat 32 (2 ^ j.val)) = 1#32 := by decide

def turn (p w : Nat) (k : Nat) : Bool := decide (p ≤ k) && w.testBit (k - p)
theorem G_before (p w : Nat) : ∀ m, m ≤ p → G 0#32 (turn p w) m = 0#32
  | 0, _ => rfl
  | m + 1, h => by
    show S (G 0#32 (turn p w) m ^^^ one (turn p w m)) = 0#32
    rw [G_before p w m (by omega)]
    have : turn p w m = false := by unfold turn; have : ¬ p ≤ m := by omega
                                    simp [this]
    rw [this]; decide
theorem ofNat_mod_succ (w j : Nat) : BitVec.ofNat 32 (w % 2 ^ (j + 1)) = BitVec.ofNat 32 (w % 2 ^ j) ^^^ (if w.testBit j then BitVec.ofNat 32 (2 ^ j) else 0#32) := by
  apply BitVec.eq_of_getLsbD_eq
  intro i hi
  rw [BitVec.getLsbD_xor, BitVec.getLsbD_ofNat, BitVec.getLsbD_ofNat, Nat.testBit_mod_two_pow, Nat.testBit_mod_two_pow]
  have hif : (if w.testBit j then BitVec.ofNat 32 (2 ^ j) else 0#32).getLsbD i = (w.testBit j && decide (i < 32) && decide (j = i)) := by
    cases w.testBit j
    · simp
    · simp only [if_true, Bool.true_and]; rw [BitVec.getLsbD_ofNat, Nat.testBit_two_pow]
  rw [hif]
  by_cases h1 : i < j
  · have h2 : i < j + 1 := by omega
    have h3 : ¬ j = i := by omega
    simp [h1, h2, h3]
  · by_cases h3 : j = i
    · subst h3; simp [hi]
    · have h2 : ¬ i < j + 1 := by omega
      simp [h1, h2, h3]
theorem G_from (p w : Nat) (hw : w < 2 ^ 32) : ∀ j, G 0#32 (turn p w) (p + j) = Sn j (BitVec.ofNat 32 (w % 2 ^ j))
  | 0 => by
    have e0 : BitVec.ofNat 32 (w % 2 ^ 0) = 0#32 := by simp [Nat.mod_one]
    rw [e0]; exact G_before p w p (Nat.le_refl _)
  | j + 1 => by
    show S (G 0#32 (turn p w) (p + j) ^^^ one (turn p w (p + j))) = S (Sn j (BitVec.ofNat 32 (w % 2 ^ (j + 1))))
    rw [G_from p w hw j, ofNat_mod_succ, Sn_xor]
    congr 2
    have ht : turn p w (p + j) = w.testBit j := by
      unfold turn
      have h1 : p ≤ p + j := by omega
      have h2 : p + j - p = j := by omega
      simp [h1, h2]
    rw [ht]
    cases hb : w.testBit j
    · simp [one, Sn_zero]
    · have hj : j < 32 := by
        apply Classical.byContradiction
        intro hn
        have : w.testBit j = false := Nat.testBit_lt_two_pow (Nat.lt_of_lt_of_le hw (Nat.pow_le_pow_right (by omega) (by omega)))
        rw [this] at hb; cases hb
      simp only [one, if_true]
      exact (Sn_one ⟨j, hj⟩).symm

theorem turned (b c : List UInt8) (p w : Nat) (hw : w < 2 ^ 32) (hp : p ≤ 8 * b.length) (hl : c.length = b.length) (hc : ∀ k, k < 8 * b.length → bit c k = (bit b k ^^ turn p w k)) :
    sum b = sum c ↔ w % 2 ^ (8 * b.length - p) = 0 := by
  have hx : reg (~~~ 0#32) c = reg (~~~ 0#32) b ^^^ G 0#32 (turn p w) (8 * b.length) := by
    rw [reg_all, reg_all, hl, ← G_xor]
    rw [BitVec.xor_zero]
    exact G_congr _ _ _ _ hc
  have hg : G 0#32 (turn p w) (8 * b.length) = Sn (8 * b.length - p) (BitVec.ofNat 32 (w % 2 ^ (8 * b.length - p))) := by
    rw [← G_from p w hw]
    congr 1
    omega
  have key : sum b = sum c ↔ G 0#32 (turn p w) (8 * b.length) = 0#32 := by
    unfold sum more
    rw [hx]
    constructor
    · intro h
      have h2 := congrArg (fun x => ~~~ x) h
      simp only [BitVec.not_not] at h2
      generalize reg (~~~ 0#32) b = r at h2
      generalize G 0#32 (turn p w) (8 * b.length) = g at h2 ⊢
      have h3 := congrArg (fun x => r ^^^ x) h2
      simp only [← BitVec.xor_assoc, BitVec.xor_self, BitVec.zero_xor] at h3
      exact h3.symm
    · intro h; rw [h, BitVec.xor_zero]
  rw [key, hg]
  constructor
  · intro h
    have h1 := Sn_inj0 _ _ h
    have h2 := congrArg BitVec.toNat h1
    rw [BitVec.toNat_ofNat] at h2
    have h3 : w % 2 ^ (8 * b.length - p) ≤ w := Nat.mod_le _ _
    have h4 : w % 2 ^ (8 * b.length - p) % 2 ^ 32 = w % 2 ^ (8 * b.length - p) := Nat.mod_eq_of_lt (by omega)
    rw [h4] at h2
    simpa using h2
  · intro h; rw [h]; exact Sn_zero _

def low (s : BitVec 32) (k : Nat) : UInt8 := UInt8.ofNat (s.toNat / 2 ^ (8 * k))
def tail (s : BitVec 32) : List UInt8 := [low s 0, low s 1, low s 2, low s 3]
def regN (n : Nat) (bs : List UInt8) : Nat := (reg (BitVec.ofNat 32 n) bs).toNat
def moreN (n : Nat) (bs : List UInt8) : Nat := (more (BitVec.ofNat 32 n) bs).toNat
def sumN (bs : List UInt8) : Nat := (sum bs).toNat
def notN (n : Nat) : Nat := 4294967295 - n
theorem ofNat_toNat (r : BitVec 32) : BitVec.ofNat 32 r.toNat = r := by simp
theorem sumN_lt (bs : List UInt8) : sumN bs < 4294967296 := (sum _).isLt
theorem notN_lt (n : Nat) : notN n < 4294967296 := by unfold notN; omega
theorem regN_nil (n : Nat) (h : n < 4294967296) : regN n [] = n := by
  unfold regN; rw [reg_nil, BitVec.toNat_ofNat]; exact Nat.mod_eq_of_lt h
theorem regN_snoc (n : Nat) (bs : List UInt8) (x : UInt8) : regN n (bs ++ [x]) = regN (regN n bs) [x] := by
  unfold regN; rw [reg_append, ofNat_toNat]
theorem not_ofNat (n : Nat) (h : n < 4294967296) : ~~~ (BitVec.ofNat 32 n) = BitVec.ofNat 32 (notN n) := by
  apply BitVec.eq_of_toNat_eq
  rw [BitVec.toNat_not, BitVec.toNat_ofNat, BitVec.toNat_ofNat, Nat.mod_eq_of_lt h, Nat.mod_eq_of_lt (notN_lt n)]
  unfold notN; omega
theorem moreN_eq (n : Nat) (h : n < 4294967296) (bs : List UInt8) : moreN n bs = notN (regN (notN n) bs) := by
  unfold moreN more regN
  rw [not_ofNat n h, BitVec.toNat_not]
  rfl
theorem moreN_nil (n : Nat) (h : n < 4294967296) : moreN n [] = n := by
  unfold moreN; rw [more_nil, BitVec.toNat_ofNat]; exact Nat.mod_eq_of_lt h
def tN (n : Nat) : Nat := (n / 16) ^^^ (tab.getD (n % 16) 0)
theorem tab_lt : ∀ k : Fin 16, tab.getD k.val 0 < 4294967296 := by decide
theorem T_nat (r : BitVec 32) : (T r).toNat = tN r.toNat := by
  unfold T tN
  have h := tab_lt ⟨r.toNat % 16, by omega⟩
  rw [BitVec.toNat_xor, BitVec.toNat_ushiftRight, BitVec.toNat_ofNat, Nat.mod_eq_of_lt h, Nat.shiftRight_eq_div_pow]
theorem wide_nat (x : UInt8) : (wide x).toNat = x.toNat := by
  unfold wide
  have := x.toNat_lt
  rw [BitVec.toNat_ofNat]; omega
theorem regN_one (n : Nat) (h : n < 4294967296) (x : UInt8) : regN n [x] = tN (tN (n ^^^ x.toNat)) := by
  show (B (BitVec.ofNat 32 n) x).toNat = _
  rw [B_T, T_nat, T_nat, BitVec.toNat_xor, wide_nat, BitVec.toNat_ofNat, Nat.mod_eq_of_lt h]
theorem tN_lt (n : Nat) (h : n < 4294967296) : tN n < 4294967296 := by
  have := T_nat (BitVec.ofNat 32 n)
  rw [BitVec.toNat_ofNat, Nat.mod_eq_of_lt h] at this
  rw [← this]; exact (T _).isLt
theorem xor_lt (n : Nat) (h : n < 4294967296) (x : UInt8) : n ^^^ x.toNat < 4294967296 := by
  have := x.toNat_lt
  exact Nat.xor_lt_two_pow (n := 32) h (by omega)

end Go.Proofs.YtelipeoilcepbaaDoor.Crc
namespace Go.Proofs.YtelipeoilcepbaaDoor
open Go.RowKit
theorem bnot (n : Nat) (h : n < 4294967296) : bits .xor .u32 IntKind.u32.max (n : Int) = ((Crc.notN n : Nat) : Int) := by
  have h1 := u32_xor_nat 4294967295 n (by omega) h
  have e : (IntKind.u32.max : Int) = ((4294967295 : Nat) : Int) := by rfl
  rw [e, h1]
  congr 1
  have h2 := congrArg BitVec.toNat (Crc.not_ofNat n h)
  rw [BitVec.toNat_ofNat, Nat.mod_eq_of_lt (Crc.notN_lt n)] at h2
  rw [← h2]
  have : (~~~ (BitVec.ofNat 32 n)) = (BitVec.ofNat 32 4294967295) ^^^ (BitVec.ofNat 32 n) := by
    apply BitVec.eq_of_getLsbD_eq
    intro i hi
    rw [show BitVec.ofNat 32 4294967295 = ~~~ 0#32 from by decide]
    simp only [BitVec.getLsbD_not, BitVec.getLsbD_xor, BitVec.getLsbD_zero, hi, decide_true, Bool.true_and]
    cases (BitVec.ofNat 32 n).getLsbD i <;> rfl
  rw [this, BitVec.toNat_xor, BitVec.toNat_ofNat, BitVec.toNat_ofNat, Nat.mod_eq_of_lt h]
theorem bxor (a b : Nat) (ha : a < 4294967296) (hb : b < 4294967296) : bits .xor .u32 (a : Int) (b : Int) = ((a ^^^ b : Nat) : Int) := u32_xor_nat a b ha hb
theorem band15 (a : Nat) (ha : a < 4294967296) : bits .and .u32 (a : Int) 15 = ((a % 16 : Nat) : Int) := by
  have h := u32_and_nat a 15 ha (by omega)
  rw [nat_mask4] at h
  exact h
theorem byTab (a : Nat) (ha : a < 4294967296) : ∃ i t c : Nat, bits .and .u32 (a : Int) 15 = (i : Int) ∧ i < 16 ∧ Crc.tab.getD i 0 = t ∧ bits .xor .u32 ((a : Int) / 16) (t : Int) = (c : Int) ∧ Hid (c = Crc.tN a) ∧ c < 4294967296 := by
  refine ⟨a % 16, _, _, band15 a ha, by omega, rfl, ?_, Lib.hid rfl, Crc.tN_lt a ha⟩
  have e : ((a : Int) / 16) = ((a / 16 : Nat) : Int) := by omega
  rw [e, bxor _ _ (by omega) (Crc.tab_lt ⟨a % 16, by omega⟩)]
  rfl
end Go.Proofs.YtelipeoilcepbaaDoor
namespace Go.Proofs.YtelipeoilcepbaaDoor
open Go.RowKit
def Tab (w : World) : Prop := ∀ k, k < 16 → w.cell? ⟨0, k, none⟩ = some (.int .u32 ((Crc.tab.getD k 0 : Nat) : Int))
set_option maxHeartbeats 400000 in
theorem more_some (s : Nat) (b off len cap : Nat) (bs : List UInt8) (w : World) (hs : s < 4294967296) (hl : bs.length = len) (hm : len ≤ maxLen)
    (hc : ∀ i, i < len → w.cell? ⟨b, off + i, none⟩ = some (.int .u8 ((bs.getD i 0).toNat : Int))) (ht : Tab w) :
    Calls Tryd.prog 78 #[.int .u32 (s : Int), .slice (some ⟨b, off, none⟩) len cap] w fun e w' => e = .returned (.int .u32 ((Crc.moreN s bs : Nat) : Int)) ∧ w = w' := by
  unfold maxLen at hm
  have hn := bnot s hs
  have hnl := Crc.notN_lt s
  go_enter Tryd.func78, Tryd.ntmps78
  go_wp2
  go_loop [5, 12] (fun r i => ∃ k n : Nat, k ≤ len ∧ i = .int .i64 k ∧ r = .int .u32 (n : Int) ∧ n < 4294967296 ∧ Hid (n = Crc.regN (Crc.notN s) (bs.take k))) (fun _ i => len - (intOf i).toNat)
  case atStart => exact ⟨0, Crc.notN s, Nat.zero_le _, rfl, rfl, hnl, Lib.hid (by rw [List.take_zero, Crc.regN_nil _ hnl])⟩
  case round =>
    obtain ⟨k, n, hk, rfl, rfl, hnn, Hn⟩ := hrel
    by_cases hlt : k < len
    · have hx := hc k hlt
      have Hs : Hid (bs.take (k + 1) = bs.take k ++ [bs.getD k 0]) := by
        rw [List.take_succ_eq_append_getElem (by omega)]
        rw [List.getD_eq_getElem?_getD, List.getElem?_eq_getElem (by omega)]
        exact Lib.hid rfl
      generalize (bs.getD k 0) = x at hx Hs
      clear hc
      have hxl : x.toNat < 256 := x.toNat_lt
      have h1 := bxor n x.toNat hnn (by omega)
      have hal := Crc.xor_lt n hnn x
      obtain ⟨a, Ha⟩ : ∃ a, Hid (a = n ^^^ x.toNat) := ⟨_, Lib.hid rfl⟩
      rw [← Ha.out] at h1 hal
      obtain ⟨i1, t1, c1, e1, l1, g1, e2, H1, cl1⟩ := byTab a hal
      obtain ⟨i2, t2, c2, e3, l2, g2, e4, H2, cl2⟩ := byTab c1 cl1
      have w1 := ht i1 l1
      have w2 := ht i2 l2
      rw [g1] at w1
      rw [g2] at w2
      clear g1 g2
      go_wp2
      go_round
      case rel => exact ⟨k + 1, c2, by omega, by go_num, rfl, cl2, Lib.hid (by rw [Hs.out, Crc.regN_snoc, ← Hn.out, Crc.regN_one _ hnn, H2.out, H1.out, Ha.out])⟩
      case measure => simp [intOf]; omega
    · have hn2 := bnot n hnn
      have hr : Crc.regN (Crc.notN s) (bs.take k) = Crc.regN (Crc.notN s) bs := by rw [List.take_of_length_le (by omega)]
      have HR := Lib.hid hr
      clear hr
      go_wp2
      go_ret
      exact ⟨ret_int (by rw [Crc.moreN_eq s hs, ← HR.out, ← Hn.out]), rfl⟩
set_option maxHeartbeats 400000 in
theorem more_none (s : Nat) (a : Option Addr) (cap : Nat) (w : World) (hs : s < 4294967296) :
    Calls Tryd.prog 78 #[.int .u32 (s : Int), .slice a 0 cap] w fun e w' => e = .returned (.int .u32 ((Crc.moreN s [] : Nat) : Int)) ∧ w = w' := by
  have hn := bnot s hs
  have hnl := Crc.notN_lt s
  have hn2 := bnot _ hnl
  have Hb : Hid (Crc.notN (Crc.notN s) = s) := by unfold Crc.notN; exact Lib.hid (by omega)
  go_enter Tryd.func78, Tryd.ntmps78
  go_wp2
  go_loop [5, 12] (fun r i => i = .int .i64 0 ∧ r = .int .u32 ((Crc.notN s : Nat) : Int)) (fun _ _ => 0)
  case atStart => exact ⟨rfl, rfl⟩
  case round =>
    obtain ⟨rfl, rfl⟩ := hrel
    go_wp2
    go_ret
    exact ⟨ret_int (by rw [Crc.moreN_nil s hs, Hb.out]), rfl⟩
theorem more_all (s : Nat) (a : Option Addr) (len cap : Nat) (bs : List UInt8) (w : World) (hs : s < 4294967296) (hb : Bs w a len bs) (ht : Tab w) :
    Calls Tryd.prog 78 #[.int .u32 (s : Int), .slice a len cap] w fun e w' => e = .returned (.int .u32 ((Crc.moreN s bs : Nat) : Int)) ∧ w = w' := by
  obtain ⟨hl, hm, hc⟩ := hb
  by_cases h : 0 < len
  · obtain ⟨b, off, rfl, hd⟩ := hc h
    exact more_some s b off len cap bs w hs hl hm hd ht
  · obtain rfl : len = 0 := by omega
    obtain rfl : bs = [] := List.eq_nil_of_length_eq_zero hl
    exact more_none s a cap w hs
theorem sum_all (a : Option Addr) (len cap : Nat) (bs : List UInt8) (w : World) (hb : Bs w a len bs) (ht : Tab w) :
    Calls Tryd.prog 65 #[.slice a len cap] w fun e w' => e = .returned (.int .u32 ((Crc.sumN bs : Nat) : Int)) ∧ w = w' := by
  have h := more_all 0 a len cap bs w (by omega) hb ht
  have H := Lib.hid h
  clear h
  go_enter Tryd.func65, Tryd.ntmps65
  go_wp2_with (go_at_call 78; refine H.out.mono ?_; rintro e w' ⟨rfl, rfl⟩)
  go_ret
  exact ⟨rfl, rfl⟩
end Go.Proofs.YtelipeoilcepbaaDoor
