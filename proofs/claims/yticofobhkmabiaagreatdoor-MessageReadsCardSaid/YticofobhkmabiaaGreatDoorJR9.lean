/-
  Texts of MessageReads in one file, shortened: MsRd. Conditions: the tables and the errors read as the program's text lays them.
-/
import Derived.Test.YticofobhkmabiaaGreatDoorJR8
import Derived.Test.YticofobhkmabiaaGreatDoorJR7
import Derived.Test.YticofobhkmabiaaGreatDoorJR0
set_option linter.unusedVariables false
set_option linter.unusedSimpArgs false
set_option maxRecDepth 40000
set_option maxHeartbeats 20000000
namespace Go.Proofs.YticofobhkmabiaaGreatDoor
open Go.RowKit
open Fdd
theorem sneqF {a : Act} {o : Oper} {W : World} {x y : Operand} {l m : List UInt8} {t u : TypeId} (ho : o.op = .binOp .neq t x y u) (hx : a.eval x = strV l) (hy : a.eval y = strV m) (he : l = m) : (execOp a.eval o).run Tryz.prog W = .ok (.value (.bool false)) W := by
 subst he
 unfold execOp
 simp only [ho, hx, hy, strV]
 go_simp
theorem sneqT {a : Act} {o : Oper} {W : World} {x y : Operand} {l m : List UInt8} {t u : TypeId} (ho : o.op = .binOp .neq t x y u) (hx : a.eval x = strV l) (hy : a.eval y = strV m) (he : l ≠ m) : (execOp a.eval o).run Tryz.prog W = .ok (.value (.bool true)) W := by
 unfold execOp
 simp only [ho, hx, hy, strV]
 go_simp
 try exact he
theorem errno_ne {a : Act} {o : Oper} {W : World} {x y : Operand} {t u : TypeId} {i : Int} (ho : o.op = .binOp .neq t x y u) (hx : a.eval x = .int .i64 i) (hy : a.eval y = .int .i64 0) (hne : i ≠ 0) : (execOp a.eval o).run Tryz.prog W = .ok (.value (.bool true)) W := by
 unfold execOp
 simp only [ho, hx, hy]
 go_simp
 try exact hne
theorem errno_eq0 {a : Act} {o : Oper} {W : World} {x y : Operand} {t u : TypeId} (ho : o.op = .binOp .neq t x y u) (hx : a.eval x = .int .i64 0) (hy : a.eval y = .int .i64 0) : (execOp a.eval o).run Tryz.prog W = .ok (.value (.bool false)) W := by
 unfold execOp
 simp only [ho, hx, hy]
 go_simp
theorem bs_store {w w' : World} {A : Option Addr} {n g : Nat} {l : List UInt8} {ty : Int} {B : Option Addr} {k d : Nat} (h : Bs w A n l) (hg : Blk w g 24 #[.int .i64 ty, .slice B k d]) (ht : Turn (only g) w w') : Bs w' A n l := by
 obtain ⟨h1, h2, h3⟩ := h
 refine ⟨h1, h2, fun hp => ?_⟩
 obtain ⟨b, off, e, hc⟩ := h3 hp
 have hne : b ≠ g := by
  rintro rfl
  have := hc 0 hp
  rw [hg.cell] at this
  have hlt := (Array.getElem?_eq_some_iff.1 this).1
  have hcase : off + 0 = 0 ∨ off + 0 = 1 := by simp at hlt; omega
  rcases hcase with e0 | e0 <;> rw [e0] at this <;> simp at this
 exact ⟨b, off, e, fun i hi => (ht.cell (p := ⟨b, off + i, none⟩) (World.block_lt_of_cell? _ _ (hc i hi)) (fun e => hne e)).trans (hc i hi)⟩
theorem there_some {no : Int} {r : Int × Int} (h : mfind no mrows = some r) : thereR no = r := by
 unfold thereR
 rw [h]
 rfl
theorem there_none {no : Int} (h : mfind no mrows = none) : thereR no = (0, 0) := by
 unfold thereR
 rw [h]
 rfl
theorem build_i0 (W : World) : (Instr.buildSlice 63 0 #[]).run Tryz.prog W = .ok (.slice (some ⟨W.heap.size, 0, none⟩) 0 0) (W.alloc (.cells #[] 3)) := by kernel_rfl
theorem bitB_eq (l : List UInt8) (i : Nat) : decide ((((l.getD (i / 8) 0).toNat / 2 ^ (7 - i % 8) % 2 : Nat) : Int) = 1) = bitB l i := by
 unfold bitB
 rw [Bool.eq_iff_iff]
 simp only [decide_eq_true_eq, beq_iff_eq]
 omega
theorem nosTo_len (l : List UInt8) (k : Nat) : (nosTo l k).length ≤ k := by
 unfold nosTo
 rw [List.length_map]
 exact Nat.le_trans (List.length_filter_le _ _) (by rw [List.length_range]; exact Nat.le_refl _)
theorem there_turn {w : World} {no : Int} : Calls Tryz.prog 31 #[.int .i64 no] w fun e w' => e = .returned (.tuple #[.int .i64 (thereR no).1, .int .i64 (thereR no).2]) ∧ Turn nowhere w w' :=
 there_walk.mono fun e w' ⟨h, h2⟩ => ⟨h, by rw [h2]; exact Turn.refl _ _⟩
theorem _root_.Go.World.ownsRow.still_ {w w' : World} {B : Nat} {e : TypeId} {sz n : Nat} {v : Value} {xs : List Value} (h : w.ownsRow B e sz v n xs) (ht : Turn nowhere w w') : w'.ownsRow B e sz v n xs := by
 refine ⟨h.1, ?_⟩
 rcases h.2 with h0 | ⟨g, cap, cur, rfl, hb1, hgg, rest⟩
 ·exact .inl h0
 ·have hlt : g < w.heap.size := (Array.getElem?_eq_some_iff.1 hgg).1
  exact .inr ⟨g, cap, cur, rfl, hb1, by rw [ht.block g hlt (fun e => e)]; exact hgg, rest⟩
def RestAt (wq w : World) (A : Option Addr) (n : Nat) (l : List UInt8) : Prop := Bs w A n l ∧ (0 < n → ∃ b o, A = some ⟨b, o, none⟩ ∧ (b < wq.heap.size ∨ ∃ cs, Blk w b 5 cs))
theorem restAt_of {w : World} {A : Option Addr} {n : Nat} {l : List UInt8} (h : Bs w A n l) : RestAt w w A n l := ⟨h, fun hp => by
 obtain ⟨b, o, e, hc⟩ := h.2.2 hp
 exact ⟨b, o, e, .inl (World.block_lt_of_cell? _ _ (hc 0 hp))⟩⟩
theorem restAt_own {wq w : World} {B n c : Nat} {A : Option Addr} {l : List UInt8} (h : Own w B 5 (.slice A n c) l) : RestAt wq w A n l := by
 obtain ⟨A9, n9, c9, hf, hb, _, _⟩ := h.form
 injection hf with q1 q2 q3
 subst q1 q2 q3
 refine ⟨hb, fun hp => ?_⟩
 rcases h.2 with ⟨e, h0⟩ | ⟨g, cap, cur, e, _, hg, _⟩
 ·injection e with _ e2 _
  omega
 ·injection e with e1 _ _
  exact ⟨g, 0, e1, .inr ⟨cur, hg⟩⟩
theorem RestAt.still {wq w w' : World} {A : Option Addr} {n : Nat} {l : List UInt8} (h : RestAt wq w A n l) (ht : Turn nowhere w w') : RestAt wq w' A n l := ⟨bs_still h.1 ht, fun hp => by
 obtain ⟨b, o, e, hc⟩ := h.2 hp
 refine ⟨b, o, e, ?_⟩
 rcases hc with hc | ⟨cs, hc⟩
 ·exact .inl hc
 ·exact .inr ⟨cs, hc.turn ht (fun e => e)⟩⟩
theorem RestAt.store {wq w w' : World} {A : Option Addr} {n g : Nat} {l : List UInt8} {ty : Int} {B : Option Addr} {k d : Nat} (h : RestAt wq w A n l) (hg : Blk w g 24 #[.int .i64 ty, .slice B k d]) (ht : Turn (only g) w w') : RestAt wq w' A n l := ⟨bs_store h.1 hg ht, fun hp => by
 obtain ⟨b, o, e, hc⟩ := h.2 hp
 refine ⟨b, o, e, ?_⟩
 rcases hc with hc | ⟨cs, hc⟩
 ·exact .inl hc
 ·exact .inr ⟨cs, hc.turn ht (fun e => hc.ne_ hg (by decide) e)⟩⟩
theorem RestAt.add {wq w w' : World} {A : Option Addr} {n : Nat} {l : List UInt8} {v : Value} {fs : List Fld} (h : RestAt wq w A n l) (hro : FRow w wq.heap.size v fs) (f : Fld) (hg : (w.alloc (.cells (fldA f) 40)).grownBy w' v.ownBlock) : RestAt wq w' A n l := by
 have hn : 0 < n → ∀ b o s, A = some ⟨b, o, s⟩ → v.ownBlock ≠ some b := fun hp b o s e hv => by
  obtain ⟨b9, o9, e9, hc⟩ := h.2 hp
  rw [e] at e9
  injection e9 with e9
  injection e9 with e9 _ _
  subst e9
  rcases hc with hc | ⟨cs, hc⟩
  ·have := (hro.lt b hv).1
   omega
  ·exact hro.ne hc (by decide) b hv rfl
 have ha := (Turn.refl nowhere w).alloc (.cells (fldA f) 40)
 have h1 := h.still ha
 obtain ⟨q1, q2, q3⟩ := h1.1
 refine ⟨⟨q1, q2, fun hp => ?_⟩, fun hp => ?_⟩
 ·obtain ⟨b, o, e, hc⟩ := q3 hp
  exact ⟨b, o, e, fun i hi => hg.cell (hc i hi) (fun e2 => hn hp b o none e e2.symm)⟩
 ·obtain ⟨b, o, e, hc⟩ := h1.2 hp
  refine ⟨b, o, e, ?_⟩
  rcases hc with hc | ⟨cs, hc⟩
  ·exact .inl hc
  ·exact .inr ⟨cs, hc.grown hg (fun e2 => hn hp b o none e e2.symm)⟩
theorem RS.still {ty : Int} {g7 : Nat} {w2 w w' : World} {l : List Fld} {B : Option Addr} {k d : Nat} (h : RS ty g7 w2 w l B k d) (ht : Turn nowhere w w') : RS ty g7 w2 w' l B k d := ⟨h.bk.turn ht (fun e => e), h.ro.still ht, h.ln, h.tr.trans ht (fun _ _ e => e.elim)⟩
theorem RS.add2 {ty : Int} {g7 : Nat} {w2 w : World} {l : List Fld} {B : Option Addr} {k d : Nat} (h : RS ty g7 w2 w l B k d) (hg : g7 < w2.heap.size) (f : Fld) (hlen : (k + 1) * 24 ≤ 140737488355328) :
 ∃ B' d' w4, (Builtin.append_ #[22, 22] 22 #[.slice B k d, .slice (some ⟨w.heap.size, 0, none⟩) 1 1]).run Tryz.prog (w.alloc (.cells (fldA f) 40)) = .ok (.slice B' (k + 1) d') w4 ∧
  Blk w4 g7 24 #[.int .i64 ty, .slice B k d] ∧ Turn (fun q => w2.heap.size ≤ q) w w4 ∧ (w.alloc (.cells (fldA f) 40)).grownBy w4 (Value.slice B k d).ownBlock ∧
  ∀ w5, Blk w5 g7 24 #[.int .i64 ty, .slice B' (k + 1) d'] → Turn (only g7) w4 w5 → RS ty g7 w2 w5 (l ++ [f]) B' (k + 1) d' := by
 obtain ⟨B', d', w4, h1, h2, h3⟩ := frow_grow (ty := 22) (w := w.alloc (.cells (fldA f) 40)) (c := 1) (h.ro.still ((Turn.refl nowhere w).alloc (.cells (fldA f) 40)))
  (Nat.le_trans h.tr.size ((Turn.refl nowhere w).alloc (.cells (fldA f) 40)).size) (fl_one f w) (fun h => by cases h) (by rw [h.ln]; exact hlen)
 rw [h.ln] at h1 h2
 have ht : Turn (fun q => w2.heap.size ≤ q) w w4 := ((Turn.refl (fun q => w2.heap.size ≤ q) w).alloc (.cells (fldA f) 40)).grown h3 fun g e _ => (h.ro.lt g e).1
 have hb4 := h.bk.turn ht (fun e => by
  have e : w2.heap.size ≤ g7 := e
  omega)
 refine ⟨B', d', w4, h1, hb4, ht, h3, fun w5 hb5 ht5 => ⟨hb5, h2.turn ht5 (fun q hq e => ?_), by rw [List.length_append, h.ln]; rfl, ?_⟩⟩
 ·have e : q = g7 := e
  have := (h2.lt q hq).1
  omega
 ·exact (h.tr.trans ht (fun q hq e => by
   have e : w2.heap.size ≤ q := e
   omega)).trans ht5 fun q hq e => e
theorem rDecode_walk {w : World} {dd : Int} {A : Option Addr} {n c : Nat} {b : List UInt8} (hb : Bs w A n b) (hnc : n ≤ c) (hz : A = none → c = 0) (hn : n ≤ 140737488355328) :
 Calls Tryz.prog 14 #[.int .i64 dd, .slice A n c] w (DecodeP (mdecodeL dd b) w) := by
 have HB := zH hb
 have HNC := zH hnc
 have HZ := zH hz
 have HN := zH hn
 clear hb hnc hz hn
 have hb0 := Blk.new w 24 #[.int .i64 0, .slice none 0 0]
 have hu0 := (Turn.refl nowhere w).alloc (.cells #[.int .i64 0, .slice none 0 0] 24)
 go_enter Tryz.func14, Tryz.ntmps14
 go_upto_region 1 with fail
 obtain ⟨g4, hg4⟩ : ∃ g, g = w.heap.size := ⟨_, rfl⟩
 rw [← hg4] at hb0 ⊢
 have HG4 := zH (show w.heap.size ≤ g4 from by omega)
 clear hg4
 have HB4 := zH hb0
 have HT0 := zH hu0
 clear hb0 hu0
 generalize w.alloc (.cells #[.int .i64 0, .slice none 0 0] 24) = w0 at *
 refine wp_region_lit ?_
 refine wR (v := .agg #[.int .i64 0, .slice none 0 0]) rfl (exec_bld rfl (build_msg0 _)) ?_
 simp only [zz]
 refine wpList_new 24 (.tmp 6) (.tmp 27) #[.int .i64 0, .slice none 0 0] rfl rfl (zero_msg _) rfl rfl rfl rfl rfl rfl (by rw [size_msg]; rfl) (msgA_one _ _ _ _) ?_
 intro w1 g6 hg6 hbx hux
 simp only [zz]
 have HB6 := zH hbx
 have HT1 := zH hux
 clear hbx hux
 go_upto_region 2 with fail
 refine wp_region_lit ?_
 refine wM (.int .i64 dd) ?_
 simp only [zz]
 by_cases hd1 : dd < 1
 ·refine wR (v := .bool true) rfl (ix_lss rfl rfl rfl (decide_eq_true hd1)) ?_
  simp only [zz]
  refine wM (.bool true) ?_
  simp only [zz]
  have HE := zH (dec_dial (b := b) (dd := dd) (by omega))
  clear hd1
  go_upto_region 3 with fail
  refine wp_region_lit ?_
  refine wR (v := .agg #[.int .i64 0, .slice none 0 0]) rfl (gx_loads rfl rfl (blk_range HB6.out) Tryz.underlying24 rfl (by rw [size_msg]; rfl)) ?_
  simp only [zz]
  refine wpList_store_row rfl 24 (.tmp 4) (.tmp 34) rfl #[.int .i64 0, .slice none 0 0] (HB4.out.turn HT1.out (fun e => e)) rfl rfl rfl (by rw [size_msg]; rfl) (msgA_one _ _ _ _) ?_
  intro wz hbz huz
  have HBZ := zH hbz
  have HUZ := zH (above (HT0.out.next HT1.out) HG4.out huz)
  clear hbz huz
  try simp only [zz]
  refine wA (.int .i64 50) ?_
  simp only [zz]
  go_wp2_with fail
  refine bodyPost_ret (v := .tuple #[.agg #[.int .i64 0, .slice none 0 0], .int .i64 50]) (ret_cell2 rfl _ _ g4 _ _ _ rfl rfl HBZ.out Tryz.underlying24 rfl (by rw [size_msg]; rfl)) rfl ?_
  rw [HE.out]
  exact ⟨none, 0, 0, rfl, fl_nil _, (fun b o t e => by cases e), HUZ.out⟩
 ·refine wR (v := .bool false) rfl (ix_lss rfl rfl rfl (decide_eq_false hd1)) ?_
  simp only [zz]
  refine wM (.bool false) ?_
  simp only [zz]
  refine wM (.int .i64 dd) ?_
  simp only [zz]
  by_cases hd3 : 3 < dd
  ·refine wR (v := .bool true) rfl (ix_gtr rfl rfl rfl (decide_eq_true hd3)) ?_
   simp only [zz]
   refine wR (v := .bool true) rfl (ix_pickF rfl rfl rfl) ?_
   simp only [zz]
   have HE := zH (dec_dial (b := b) (dd := dd) (by omega))
   clear hd1 hd3
   go_upto_region 3 with fail
   refine wp_region_lit ?_
   refine wR (v := .agg #[.int .i64 0, .slice none 0 0]) rfl (gx_loads rfl rfl (blk_range HB6.out) Tryz.underlying24 rfl (by rw [size_msg]; rfl)) ?_
   simp only [zz]
   refine wpList_store_row rfl 24 (.tmp 4) (.tmp 34) rfl #[.int .i64 0, .slice none 0 0] (HB4.out.turn HT1.out (fun e => e)) rfl rfl rfl (by rw [size_msg]; rfl) (msgA_one _ _ _ _) ?_
   intro wz hbz huz
   have HBZ := zH hbz
   have HUZ := zH (above (HT0.out.next HT1.out) HG4.out huz)
   clear hbz huz
   try simp only [zz]
   refine wA (.int .i64 50) ?_
   simp only [zz]
   go_wp2_with fail
   refine bodyPost_ret (v := .tuple #[.agg #[.int .i64 0, .slice none 0 0], .int .i64 50]) (ret_cell2 rfl _ _ g4 _ _ _ rfl rfl HBZ.out Tryz.underlying24 rfl (by rw [size_msg]; rfl)) rfl ?_
   rw [HE.out]
   exact ⟨none, 0, 0, rfl, fl_nil _, (fun b o t e => by cases e), HUZ.out⟩
  ·refine wR (v := .bool false) rfl (ix_gtr rfl rfl rfl (decide_eq_false hd3)) ?_
   simp only [zz]
   refine wR (v := .bool false) rfl (ix_pickF rfl rfl rfl) ?_
   simp only [zz]
   obtain ⟨d, rfl⟩ : ∃ d : Nat, dd = (d : Int) := ⟨dd.toNat, by omega⟩
   have hd : 1 ≤ d ∧ d ≤ 3 := by omega
   have HD := zH hd
   clear hd1 hd3 hd
   go_upto_region 4 with fail
   refine wp_region_lit ?_
   refine wM (.slice A n c) ?_
   simp only [zz]
   refine wM (.int .i64 (d : Int)) ?_
   simp only [zz]
   have hN := number_walk (w := w1) (dd := (d : Int)) (sz := 4)
   refine wpList_op rfl fun K9 HK9 => ?_
   go_wp2_with fail
   refine (hN).mono ?_
   rintro e w2 ⟨rfl, htx⟩
   refine HK9.out _ _ ?_
   clear HK9
   try simp only [zz]
   clear hN
   have HT2 := zH htx
   clear htx
   cases hk : (typeFm d).take b with
   | error k =>
     have HKN := zH (ftake_err hk)
     have HE := zH (dec_type HD.out (ty_err hk))
     have hT : Calls Tryz.prog 29 #[.slice A n c, .agg (fmA ⟨1, 4, (d : Int)⟩)] w2 fun e w' => ∃ A n c, e = .returned (.tuple #[strV [], .slice A n c, .int .i64 k]) ∧ Own w' w2.heap.size 5 (.slice A n c) [] ∧ Turn nowhere w2 w' := by
      have h := rtake_all (f := typeFm d) (bs_still HB.out ((HT0.out.next HT1.out).next HT2.out)) HNC.out HZ.out HN.out
      rw [hk] at h
      exact h
     refine wpList_op rfl fun K9 HK9 => ?_
     go_wp2_with fail
     refine (hT).mono ?_
     rintro e w3 ⟨A3, n3, c3, rfl, hox, htx⟩
     refine HK9.out _ _ ?_
     clear HK9
     try simp only [zz]
     clear hT
     have HT3 := zH htx
     clear htx
     obtain ⟨A9, n9, c9, hf9, hb9, hnc9, hz9⟩ := hox.form
     injection hf9 with q1 q2 q3
     subst q1 q2 q3
     have HS3 := zH hb9
     have HC3 := zH hnc9
     have HZ3 := zH hz9
     clear hox hb9 hnc9 hz9
     clear hk
     refine wM (.tuple #[strV [], .slice A3 n3 c3, .int .i64 k]) ?_
     simp only [zz]
     refine wE (strV []) ?_
     simp only [zz]
     refine wE (.slice A3 n3 c3) ?_
     simp only [zz]
     refine wE (.int .i64 k) ?_
     simp only [zz]
     refine wA (strV []) ?_
     simp only [zz]
     refine wA (.slice A3 n3 c3) ?_
     simp only [zz]
     refine wA (.int .i64 k) ?_
     simp only [zz]
     go_upto_region 5 with fail
     refine wp_region_lit ?_
     refine wM (.int .i64 k) ?_
     simp only [zz]
     refine wR (v := .bool true) rfl (errno_ne rfl rfl rfl HKN.out) ?_
     simp only [zz]
     go_upto_region 6 with fail
     refine wp_region_lit ?_
     refine wR (v := .agg #[.int .i64 0, .slice none 0 0]) rfl (gx_loads rfl rfl (blk_range (HB6.out.turn (HT2.out.next HT3.out) (fun e => e))) Tryz.underlying24 rfl (by rw [size_msg]; rfl)) ?_
     simp only [zz]
     refine wM (.int .i64 k) ?_
     simp only [zz]
     refine wpList_store_row rfl 24 (.tmp 4) (.tmp 45) rfl #[.int .i64 0, .slice none 0 0] (HB4.out.turn ((HT1.out.next HT2.out).next HT3.out) (fun e => e)) rfl rfl rfl (by rw [size_msg]; rfl) (msgA_one _ _ _ _) ?_
     intro wz hbz huz
     have HBZ := zH hbz
     have HUZ := zH (above (((HT0.out.next HT1.out).next HT2.out).next HT3.out) HG4.out huz)
     clear hbz huz
     try simp only [zz]
     refine wA (.int .i64 k) ?_
     simp only [zz]
     go_wp2_with fail
     refine bodyPost_ret (v := .tuple #[.agg #[.int .i64 0, .slice none 0 0], .int .i64 k]) (ret_cell2 rfl _ _ g4 _ _ _ rfl rfl HBZ.out Tryz.underlying24 rfl (by rw [size_msg]; rfl)) rfl ?_
     rw [HE.out]
     exact ⟨none, 0, 0, rfl, fl_nil _, (fun b o t e => by cases e), HUZ.out⟩
   | ok p =>
     obtain ⟨t3, r3⟩ := p
     obtain ⟨x0, x1, x2, x3, ty, hte, h1, h2, h3, hty, hmt⟩ := type_ref HD.out hk
     have HTK := zH hk
     have HX1 := zH h1
     have HX2 := zH h2
     have HX3 := zH h3
     have HTY := zH hty
     have HMT := zH hmt
     have hr3 : r3.length ≤ b.length := by
      have h := tk_len (typeFm d) b
      rw [hk] at h
      exact h
     have HR3 := zH (show r3.length ≤ 140737488355328 from by have := HB.out.1; have := HN.out; omega)
     clear h1 h2 h3 hty hmt hr3
     have hT : Calls Tryz.prog 29 #[.slice A n c, .agg (fmA ⟨1, 4, (d : Int)⟩)] w2 fun e w' => ∃ A n c, e = .returned (.tuple #[strV t3, .slice A n c, .int .i64 0]) ∧ Own w' w2.heap.size 5 (.slice A n c) r3 ∧ Turn nowhere w2 w' := by
      have h := rtake_all (f := typeFm d) (bs_still HB.out ((HT0.out.next HT1.out).next HT2.out)) HNC.out HZ.out HN.out
      rw [hk] at h
      exact h
     refine wpList_op rfl fun K9 HK9 => ?_
     go_wp2_with fail
     refine (hT).mono ?_
     rintro e w3 ⟨A3, n3, c3, rfl, hox, htx⟩
     refine HK9.out _ _ ?_
     clear HK9
     try simp only [zz]
     clear hT
     have HT3 := zH htx
     clear htx
     obtain ⟨A9, n9, c9, hf9, hb9, hnc9, hz9⟩ := hox.form
     injection hf9 with q1 q2 q3
     subst q1 q2 q3
     have HS3 := zH hb9
     have HC3 := zH hnc9
     have HZ3 := zH hz9
     clear hox hb9 hnc9 hz9
     clear hk
     subst hte
     have HN3 := zH (show n3 ≤ 140737488355328 from by have := HS3.out.1; have := HR3.out; omega)
     refine wM (.tuple #[strV [x0, x1, x2, x3], .slice A3 n3 c3, .int .i64 0]) ?_
     simp only [zz]
     refine wE (strV [x0, x1, x2, x3]) ?_
     simp only [zz]
     refine wE (.slice A3 n3 c3) ?_
     simp only [zz]
     refine wE (.int .i64 0) ?_
     simp only [zz]
     refine wA (strV [x0, x1, x2, x3]) ?_
     simp only [zz]
     refine wA (.slice A3 n3 c3) ?_
     simp only [zz]
     refine wA (.int .i64 0) ?_
     simp only [zz]
     go_upto_region 5 with fail
     refine wp_region_lit ?_
     refine wM (.int .i64 0) ?_
     simp only [zz]
     refine wR (v := .bool false) rfl (errno_eq0 rfl rfl rfl) ?_
     simp only [zz]
     go_upto_region 7 with fail
     refine wp_region_alw (fun _ => True) (by kernel_rfl) ?_
     have hS0 : True := trivial
     have htd := (Turn.refl nowhere w3).drew
     generalize w3.drew = w4 at *
     refine aT (i := 0) (v := strV [x0, x1, x2, x3]) rfl (by kernel_rfl) (by kernel_rfl) (fun W hW => exec_move rfl rfl) hS0 ?_
     simp only [zz]
     refine aT (i := 1) (v := .int .u8 (x1.toNat : Int)) rfl (by kernel_rfl) (by kernel_rfl) (fun W hW => exec_sidx (l := [x0, x1, x2, x3]) (i := 1) rfl rfl rfl (by simp)) hS0 ?_
     simp only [zz]
     refine aT (i := 2) (v := .int .u8 ((x1.toNat - 48 : Nat) : Int)) rfl (by kernel_rfl) (by kernel_rfl) (fun W hW => u8_sub rfl rfl rfl (by have := HX1.out; omega) (by have := HX1.out; omega)) hS0 ?_
     simp only [zz]
     refine aT (i := 3) (v := .int .i64 ((x1.toNat - 48 : Nat) : Int)) rfl (by kernel_rfl) (by kernel_rfl) (fun W hW => ix_b2i (k := x1.toNat - 48) (by have := HX1.out; omega) rfl rfl) hS0 ?_
     simp only [zz]
     refine aT (i := 4) (v := .int .i64 ((100 * (x1.toNat - 48) : Nat) : Int)) rfl (by kernel_rfl) (by kernel_rfl) (fun W hW => ix_mul rfl rfl rfl (by have := HX1.out; have := HX2.out; have := HX3.out; omega) (by have := HX1.out; have := HX2.out; have := HX3.out; omega)) hS0 ?_
     simp only [zz]
     refine aT (i := 5) (v := strV [x0, x1, x2, x3]) rfl (by kernel_rfl) (by kernel_rfl) (fun W hW => exec_move rfl rfl) hS0 ?_
     simp only [zz]
     refine aT (i := 6) (v := .int .u8 (x2.toNat : Int)) rfl (by kernel_rfl) (by kernel_rfl) (fun W hW => exec_sidx (l := [x0, x1, x2, x3]) (i := 2) rfl rfl rfl (by simp)) hS0 ?_
     simp only [zz]
     refine aT (i := 7) (v := .int .u8 ((x2.toNat - 48 : Nat) : Int)) rfl (by kernel_rfl) (by kernel_rfl) (fun W hW => u8_sub rfl rfl rfl (by have := HX2.out; omega) (by have := HX2.out; omega)) hS0 ?_
     simp only [zz]
     refine aT (i := 8) (v := .int .i64 ((x2.toNat - 48 : Nat) : Int)) rfl (by kernel_rfl) (by kernel_rfl) (fun W hW => ix_b2i (k := x2.toNat - 48) (by have := HX2.out; omega) rfl rfl) hS0 ?_
     simp only [zz]
     refine aT (i := 9) (v := .int .i64 ((10 * (x2.toNat - 48) : Nat) : Int)) rfl (by kernel_rfl) (by kernel_rfl) (fun W hW => ix_mul rfl rfl rfl (by have := HX1.out; have := HX2.out; have := HX3.out; omega) (by have := HX1.out; have := HX2.out; have := HX3.out; omega)) hS0 ?_
     simp only [zz]
     refine aT (i := 10) (v := .int .i64 ((100 * (x1.toNat - 48) + 10 * (x2.toNat - 48) : Nat) : Int)) rfl (by kernel_rfl) (by kernel_rfl) (fun W hW => ix_add rfl rfl rfl (by have := HX1.out; have := HX2.out; have := HX3.out; omega) (by have := HX1.out; have := HX2.out; have := HX3.out; omega)) hS0 ?_
     simp only [zz]
     refine aT (i := 11) (v := strV [x0, x1, x2, x3]) rfl (by kernel_rfl) (by kernel_rfl) (fun W hW => exec_move rfl rfl) hS0 ?_
     simp only [zz]
     refine aT (i := 12) (v := .int .u8 (x3.toNat : Int)) rfl (by kernel_rfl) (by kernel_rfl) (fun W hW => exec_sidx (l := [x0, x1, x2, x3]) (i := 3) rfl rfl rfl (by simp)) hS0 ?_
     simp only [zz]
     refine aT (i := 13) (v := .int .u8 ((x3.toNat - 48 : Nat) : Int)) rfl (by kernel_rfl) (by kernel_rfl) (fun W hW => u8_sub rfl rfl rfl (by have := HX3.out; omega) (by have := HX3.out; omega)) hS0 ?_
     simp only [zz]
     refine aT (i := 14) (v := .int .i64 ((x3.toNat - 48 : Nat) : Int)) rfl (by kernel_rfl) (by kernel_rfl) (fun W hW => ix_b2i (k := x3.toNat - 48) (by have := HX3.out; omega) rfl rfl) hS0 ?_
     simp only [zz]
     refine aT (i := 15) (v := .int .i64 (ty : Int)) rfl (by kernel_rfl) (by kernel_rfl) (fun W hW => ix_add rfl rfl rfl (by have := HX1.out; have := HX2.out; have := HX3.out; have := HTY.out; omega) (by have := HX1.out; have := HX2.out; have := HX3.out; have := HTY.out; omega)) hS0 ?_
     simp only [zz]
     refine aT (i := 16) (v := .agg #[.int .i64 (ty : Int), .slice none 0 0]) rfl (by kernel_rfl) (by kernel_rfl) (fun W hW => gx_build1 rfl rfl (build_msg1 (ty : Int) W)) hS0 ?_
     simp only [zz]
     refine alw_step (i := 17) (by kernel_rfl) rfl rfl ?_
     intro K1 HK1
     refine wp_run (gx_alloc rfl (zero_msg _)) ?_
     refine HK1.out _ _ ⟨trivial, ?_⟩
     clear HK1
     have hbx := Blk.new w4 24 #[.int .i64 0, .slice none 0 0]
     have hux := htd.alloc (.cells #[.int .i64 0, .slice none 0 0] 24)
     have hg0 := htd.size
     obtain ⟨g10, hg10⟩ : ∃ g, g = w4.heap.size := ⟨_, rfl⟩
     rw [← hg10] at hbx ⊢
     try simp only [zz]
     refine alw_step (i := 18) (by kernel_rfl) rfl rfl ?_
     intro K1 HK1
     refine wp_store_rowU 24 (.tmp 10) (.tmp 63) rfl #[.int .i64 (ty : Int), .slice none 0 0] hbx rfl rfl rfl (by rw [size_msg]; rfl) (msgA_one _ _ _ _) ?_
     intro w5 hbz huz
     refine HK1.out _ _ ⟨trivial, ?_⟩
     have HBX := zH hbz
     have HT5 := zH (above hux (by omega) huz)
     have HG10 := zH (show w3.heap.size ≤ g10 from by omega)
     clear HK1 hbx hux hbz huz hg10 hg0 htd
     try simp only [zz]
     refine alw_done rfl ?_
     clear hS0
     refine NoPanic.normal ?_
     have HT9 := zH (show ty ≤ 999 from by have := HX1.out; have := HX2.out; have := HX3.out; have := HTY.out; omega)
     go_upto_region 8 with fail
     refine wp_region_lit ?_
     refine wR (v := .pointer (some ⟨g10, 0, none⟩)) rfl (exec_field (off := 0) (d := 0) rfl rfl (by kernel_rfl)) ?_
     simp only [zz]
     refine wR (v := .int .i64 (ty : Int)) rfl (exec_load1 rfl rfl (by kernel_rfl) (HBX.out.cell 0)) ?_
     simp only [zz]
     have hK := kind_walk (w := w5) (n := (ty : Int))
     cases hkd : mtypes.contains (ty : Int) with
     | false =>
       rw [hkd] at hK
       have HE := zH (dec_type HD.out (ty_no HTK.out (show mtype d [x0, x1, x2, x3] = none from by rw [HMT.out, if_neg (fun h => by rw [hkd] at h; cases h.1)])))
       clear hkd
       refine wpList_op rfl fun K9 HK9 => ?_
       go_wp2_with fail
       refine (hK).mono ?_
       rintro e w6 ⟨rfl, htx⟩
       refine HK9.out _ _ ?_
       clear HK9
       try simp only [zz]
       clear hK
       have HT6 := zH htx
       clear htx
       refine wR (v := .bool true) rfl (ix_not (b := false) rfl rfl) ?_
       simp only [zz]
       refine wM (.bool true) ?_
       simp only [zz]
       go_upto_region 9 with fail
       refine wp_region_lit ?_
       refine wR (v := .agg #[.int .i64 0, .slice none 0 0]) rfl (gx_loads rfl rfl (blk_range (HB6.out.turn (((HT2.out.next HT3.out).next HT5.out).next HT6.out) (fun e => e))) Tryz.underlying24 rfl (by rw [size_msg]; rfl)) ?_
       simp only [zz]
       refine wpList_store_row rfl 24 (.tmp 4) (.tmp 76) rfl #[.int .i64 0, .slice none 0 0] (HB4.out.turn ((((HT1.out.next HT2.out).next HT3.out).next HT5.out).next HT6.out) (fun e => e)) rfl rfl rfl (by rw [size_msg]; rfl) (msgA_one _ _ _ _) ?_
       intro wz hbz huz
       have HBZ := zH hbz
       have HUZ := zH (above (((((HT0.out.next HT1.out).next HT2.out).next HT3.out).next HT5.out).next HT6.out) HG4.out huz)
       clear hbz huz
       try simp only [zz]
       refine wA (.int .i64 51) ?_
       simp only [zz]
       go_wp2_with fail
       refine bodyPost_ret (v := .tuple #[.agg #[.int .i64 0, .slice none 0 0], .int .i64 51]) (ret_cell2 rfl _ _ g4 _ _ _ rfl rfl HBZ.out Tryz.underlying24 rfl (by rw [size_msg]; rfl)) rfl ?_
       rw [HE.out]
       exact ⟨none, 0, 0, rfl, fl_nil _, (fun b o t e => by cases e), HUZ.out⟩
     | true =>
       rw [hkd] at hK
       have HKD := zH hkd
       clear hkd
       refine wpList_op rfl fun K9 HK9 => ?_
       go_wp2_with fail
       refine (hK).mono ?_
       rintro e w6 ⟨rfl, htx⟩
       refine HK9.out _ _ ?_
       clear HK9
       try simp only [zz]
       clear hK
       have HT6 := zH htx
       clear htx
       refine wR (v := .bool false) rfl (ix_not (b := true) rfl rfl) ?_
       simp only [zz]
       refine wM (.bool false) ?_
       simp only [zz]
       refine wM (strV [x0, x1, x2, x3]) ?_
       simp only [zz]
       refine wM (.int .i64 (d : Int)) ?_
       simp only [zz]
       refine wR (v := .pointer (some ⟨g10, 0, none⟩)) rfl (exec_field (off := 0) (d := 0) rfl rfl (by kernel_rfl)) ?_
       simp only [zz]
       refine wR (v := .int .i64 (ty : Int)) rfl (exec_load1 rfl rfl (by kernel_rfl) ((HBX.out.turn HT6.out (fun e => e)).cell 0)) ?_
       simp only [zz]
       have hH := head_walk (w := w6) (ty := ty) HD.out HT9.out
       refine wpList_op (by go_simp) fun K9 HK9 => ?_
       go_wp2_with fail
       refine (hH).mono ?_
       rintro e w7 ⟨rfl, htx⟩
       refine HK9.out _ _ ?_
       clear HK9
       try simp only [zz]
       clear hH
       have HT7 := zH htx
       clear htx
       by_cases hsm : [x0, x1, x2, x3] = ver d ++ dig3 ty
       ·have HTP := zH (ty_ok HTK.out (show mtype d [x0, x1, x2, x3] = some (ty : Int) from by rw [HMT.out, if_pos ⟨HKD.out, hsm⟩]))
        have HSM := zH hsm
        clear hsm
        refine wR (v := .bool false) (by go_simp) (sneqF (l := [x0, x1, x2, x3]) (m := ver d ++ dig3 ty) rfl rfl rfl HSM.out) ?_
        simp only [zz]
        refine wR (v := .bool false) (by go_simp) (ix_pickF rfl rfl rfl) ?_
        simp only [zz]
        go_upto_region 10 with fail
        refine wp_region_lit ?_
        refine wM (.int .i64 (d : Int)) ?_
        simp only [zz]
        refine wM (.slice A3 n3 c3) ?_
        simp only [zz]
        cases hk : takeHalf d r3 with
        | error k =>
          have HKN := zH (takeHalf_err hk)
          have HE := zH (dec_map HD.out HTP.out (map_e1 hk))
          have hT : Calls Tryz.prog 30 #[.int .i64 (d : Int), .slice A3 n3 c3] w7 fun e w' => e = .returned (.tuple #[.slice none 0 0, .slice none 0 0, .int .i64 k]) ∧ Turn nowhere w7 w' := by
           have h := eight_walk HD.out (bs_still HS3.out ((HT5.out.next HT6.out).next HT7.out)) HC3.out HZ3.out HN3.out
           rw [hk] at h
           exact h
          refine wpList_op rfl fun K9 HK9 => ?_
          go_wp2_with fail
          refine (hT).mono ?_
          rintro e w8 ⟨rfl, htx⟩
          refine HK9.out _ _ ?_
          clear HK9
          try simp only [zz]
          clear hT
          have HT8 := zH htx
          clear htx
          clear hk
          refine wM (.tuple #[.slice none 0 0, .slice none 0 0, .int .i64 k]) ?_
          simp only [zz]
          refine wE (.slice none 0 0) ?_
          simp only [zz]
          refine wE (.slice none 0 0) ?_
          simp only [zz]
          refine wE (.int .i64 k) ?_
          simp only [zz]
          refine wA (.slice none 0 0) ?_
          simp only [zz]
          refine wA (.slice none 0 0) ?_
          simp only [zz]
          refine wA (.int .i64 k) ?_
          simp only [zz]
          go_upto_region 11 with fail
          refine wp_region_lit ?_
          refine wM (.int .i64 k) ?_
          simp only [zz]
          refine wR (v := .bool true) rfl (errno_ne rfl rfl rfl HKN.out) ?_
          simp only [zz]
          go_upto_region 12 with fail
          refine wp_region_lit ?_
          refine wR (v := .agg #[.int .i64 0, .slice none 0 0]) rfl (gx_loads rfl rfl (blk_range (HB6.out.turn (((((HT2.out.next HT3.out).next HT5.out).next HT6.out).next HT7.out).next HT8.out) (fun e => e))) Tryz.underlying24 rfl (by rw [size_msg]; rfl)) ?_
          simp only [zz]
          refine wM (.int .i64 k) ?_
          simp only [zz]
          refine wpList_store_row rfl 24 (.tmp 4) (.tmp 86) rfl #[.int .i64 0, .slice none 0 0] (HB4.out.turn ((((((HT1.out.next HT2.out).next HT3.out).next HT5.out).next HT6.out).next HT7.out).next HT8.out) (fun e => e)) rfl rfl rfl (by rw [size_msg]; rfl) (msgA_one _ _ _ _) ?_
          intro wz hbz huz
          have HBZ := zH hbz
          have HUZ := zH (above (((((((HT0.out.next HT1.out).next HT2.out).next HT3.out).next HT5.out).next HT6.out).next HT7.out).next HT8.out) HG4.out huz)
          clear hbz huz
          try simp only [zz]
          refine wA (.int .i64 k) ?_
          simp only [zz]
          go_wp2_with fail
          refine bodyPost_ret (v := .tuple #[.agg #[.int .i64 0, .slice none 0 0], .int .i64 k]) (ret_cell2 rfl _ _ g4 _ _ _ rfl rfl HBZ.out Tryz.underlying24 rfl (by rw [size_msg]; rfl)) rfl ?_
          rw [HE.out]
          exact ⟨none, 0, 0, rfl, fl_nil _, (fun b o t e => by cases e), HUZ.out⟩
        | ok p =>
          obtain ⟨x, r8⟩ := p
          have HK8 := zH hk
          have hT : Calls Tryz.prog 30 #[.int .i64 (d : Int), .slice A3 n3 c3] w7 fun e w' => ∃ A1 c1 A2 n2 c2, e = .returned (.tuple #[.slice A1 8 c1, .slice A2 n2 c2, .int .i64 0]) ∧ Bs w' A1 8 (be 8 x) ∧ 8 ≤ c1 ∧ x < 2 ^ 64 ∧ Bs w' A2 n2 r8 ∧ n2 ≤ c2 ∧ (A2 = none → c2 = 0) ∧ n2 ≤ 140737488355328 ∧ Turn nowhere w7 w' := by
           have h := eight_walk HD.out (bs_still HS3.out ((HT5.out.next HT6.out).next HT7.out)) HC3.out HZ3.out HN3.out
           rw [hk] at h
           exact h
          refine wpList_op rfl fun K9 HK9 => ?_
          go_wp2_with fail
          refine (hT).mono ?_
          rintro e w8 ⟨A8a, c8a, A8, n8, c8, rfl, e1, e2, e3, e4, e5, e6, e7, htx⟩
          refine HK9.out _ _ ?_
          clear HK9
          try simp only [zz]
          clear hT
          have HT8 := zH htx
          have HM8 := zH e1
          have HMC8 := zH e2
          have HML8 := zH e3
          have HS8 := zH e4
          have HC8 := zH e5
          have HZ8 := zH e6
          have HNN8 := zH e7
          clear htx e1 e2 e3 e4 e5 e6 e7
          clear hk
          obtain ⟨gb, ob, rfl, _⟩ := HM8.out.2.2 (by omega)
          refine wM (.tuple #[.slice (some ⟨gb, ob, none⟩) 8 c8a, .slice A8 n8 c8, .int .i64 0]) ?_
          simp only [zz]
          refine wE (.slice (some ⟨gb, ob, none⟩) 8 c8a) ?_
          simp only [zz]
          refine wE (.slice A8 n8 c8) ?_
          simp only [zz]
          refine wE (.int .i64 0) ?_
          simp only [zz]
          refine wA (.slice (some ⟨gb, ob, none⟩) 8 c8a) ?_
          simp only [zz]
          refine wA (.slice A8 n8 c8) ?_
          simp only [zz]
          refine wA (.int .i64 0) ?_
          simp only [zz]
          go_upto_region 11 with fail
          refine wp_region_lit ?_
          refine wM (.int .i64 0) ?_
          simp only [zz]
          refine wR (v := .bool false) rfl (errno_eq0 rfl rfl rfl) ?_
          simp only [zz]
          go_upto_region 13 with fail
          refine wp_region_lit ?_
          refine wM (.slice (some ⟨gb, ob, none⟩) 8 c8a) ?_
          simp only [zz]
          refine wR (v := .pointer (some ⟨gb, ob + 0, none⟩)) rfl (gx_iaddr (i := 0) (sz := 1) rfl rfl rfl Tryz.underlying26 size_byte1 (by decide) (by omega)) ?_
          simp only [zz]
          refine wR (v := .int .u8 (((be 8 x).getD 0 0).toNat : Int)) rfl (exec_load1 rfl rfl (by kernel_rfl) (bs_cell HM8.out (by decide))) ?_
          simp only [zz]
          refine wR (v := .bool (decide (128 ≤ ((be 8 x).getD 0 0).toNat))) rfl (u8_geq rfl rfl rfl (decide_eq_decide.2 (by omega))) ?_
          simp only [zz]
          go_upto_if 91 with fail
          go_cut [8, 11] from 91 to 123 (fun rv bv wx => ∃ (NB : Nat) (BL : List UInt8) (gbx obx cbx : Nat) (A0 : Option Addr) (n0 c0 : Nat) (r0 : List UInt8), bv = .slice (some ⟨gbx, obx, none⟩) NB cbx ∧ rv = .slice A0 n0 c0 ∧ (NB = 8 ∨ NB = 16) ∧ Bs wx (some ⟨gbx, obx, none⟩) NB BL ∧ Bs wx A0 n0 r0 ∧ n0 ≤ c0 ∧ (A0 = none → c0 = 0) ∧ n0 ≤ 140737488355328 ∧ takeMap d r3 = .ok (nosTo BL (8 * NB), r0) ∧ Turn nowhere w8 wx)
          case first =>
           by_cases hfar : 128 ≤ ((be 8 x).getD 0 0).toNat
           ·rw [decide_eq_true hfar]
            go_upto_region 14 with fail
            refine wp_region_lit ?_
            refine wM (.int .i64 (d : Int)) ?_
            simp only [zz]
            refine wM (.slice A8 n8 c8) ?_
            simp only [zz]
            cases hk : takeHalf d r8 with
            | error k =>
              have HKN := zH (takeHalf_err hk)
              have HE := zH (dec_map HD.out HTP.out (map_e2 HK8.out hfar hk))
              clear hfar
              have hT : Calls Tryz.prog 30 #[.int .i64 (d : Int), .slice A8 n8 c8] w8 fun e w' => e = .returned (.tuple #[.slice none 0 0, .slice none 0 0, .int .i64 k]) ∧ Turn nowhere w8 w' := by
               have h := eight_walk HD.out HS8.out HC8.out HZ8.out HNN8.out
               rw [hk] at h
               exact h
              refine wpList_op rfl fun K9 HK9 => ?_
              go_wp2_with fail
              refine (hT).mono ?_
              rintro e w9 ⟨rfl, htx⟩
              refine HK9.out _ _ ?_
              clear HK9
              try simp only [zz]
              clear hT
              have HT9 := zH htx
              clear htx
              clear hk
              refine wM (.tuple #[.slice none 0 0, .slice none 0 0, .int .i64 k]) ?_
              simp only [zz]
              refine wE (.slice none 0 0) ?_
              simp only [zz]
              refine wE (.slice none 0 0) ?_
              simp only [zz]
              refine wE (.int .i64 k) ?_
              simp only [zz]
              refine wA (.slice none 0 0) ?_
              simp only [zz]
              refine wA (.slice none 0 0) ?_
              simp only [zz]
              refine wA (.int .i64 k) ?_
              simp only [zz]
              go_upto_region 15 with fail
              refine wp_region_lit ?_
              refine wM (.int .i64 k) ?_
              simp only [zz]
              refine wR (v := .bool true) rfl (errno_ne rfl rfl rfl HKN.out) ?_
              simp only [zz]
              go_upto_region 16 with fail
              refine wp_region_lit ?_
              refine wR (v := .agg #[.int .i64 0, .slice none 0 0]) rfl (gx_loads rfl rfl (blk_range (HB6.out.turn ((((((HT2.out.next HT3.out).next HT5.out).next HT6.out).next HT7.out).next HT8.out).next HT9.out) (fun e => e))) Tryz.underlying24 rfl (by rw [size_msg]; rfl)) ?_
              simp only [zz]
              refine wM (.int .i64 k) ?_
              simp only [zz]
              refine wpList_store_row rfl 24 (.tmp 4) (.tmp 101) rfl #[.int .i64 0, .slice none 0 0] (HB4.out.turn (((((((HT1.out.next HT2.out).next HT3.out).next HT5.out).next HT6.out).next HT7.out).next HT8.out).next HT9.out) (fun e => e)) rfl rfl rfl (by rw [size_msg]; rfl) (msgA_one _ _ _ _) ?_
              intro wz hbz huz
              have HBZ := zH hbz
              have HUZ := zH (above ((((((((HT0.out.next HT1.out).next HT2.out).next HT3.out).next HT5.out).next HT6.out).next HT7.out).next HT8.out).next HT9.out) HG4.out huz)
              clear hbz huz
              try simp only [zz]
              refine wA (.int .i64 k) ?_
              simp only [zz]
              go_wp2_with fail
              refine bodyPost_ret (v := .tuple #[.agg #[.int .i64 0, .slice none 0 0], .int .i64 k]) (ret_cell2 rfl _ _ g4 _ _ _ rfl rfl HBZ.out Tryz.underlying24 rfl (by rw [size_msg]; rfl)) rfl ?_
              rw [HE.out]
              exact ⟨none, 0, 0, rfl, fl_nil _, (fun b o t e => by cases e), HUZ.out⟩
            | ok p =>
              obtain ⟨y, r9⟩ := p
              have HK9 := zH hk
              have HFAR := zH hfar
              clear hfar
              have hT : Calls Tryz.prog 30 #[.int .i64 (d : Int), .slice A8 n8 c8] w8 fun e w' => ∃ A1 c1 A2 n2 c2, e = .returned (.tuple #[.slice A1 8 c1, .slice A2 n2 c2, .int .i64 0]) ∧ Bs w' A1 8 (be 8 y) ∧ 8 ≤ c1 ∧ y < 2 ^ 64 ∧ Bs w' A2 n2 r9 ∧ n2 ≤ c2 ∧ (A2 = none → c2 = 0) ∧ n2 ≤ 140737488355328 ∧ Turn nowhere w8 w' := by
               have h := eight_walk HD.out HS8.out HC8.out HZ8.out HNN8.out
               rw [hk] at h
               exact h
              refine wpList_op rfl fun K9 HK9 => ?_
              go_wp2_with fail
              refine (hT).mono ?_
              rintro e w9 ⟨A9a, c9a, A9, n9, c9, rfl, e1, e2, e3, e4, e5, e6, e7, htx⟩
              refine HK9.out _ _ ?_
              clear HK9
              try simp only [zz]
              clear hT
              have HT9 := zH htx
              have HM9 := zH e1
              have HMC9 := zH e2
              have HML9 := zH e3
              have HS9 := zH e4
              have HC9 := zH e5
              have HZ9 := zH e6
              have HNN9 := zH e7
              clear htx e1 e2 e3 e4 e5 e6 e7
              clear hk
              obtain ⟨gc, oc, rfl, _⟩ := HM9.out.2.2 (by omega)
              refine wM (.tuple #[.slice (some ⟨gc, oc, none⟩) 8 c9a, .slice A9 n9 c9, .int .i64 0]) ?_
              simp only [zz]
              refine wE (.slice (some ⟨gc, oc, none⟩) 8 c9a) ?_
              simp only [zz]
              refine wE (.slice A9 n9 c9) ?_
              simp only [zz]
              refine wE (.int .i64 0) ?_
              simp only [zz]
              refine wA (.slice (some ⟨gc, oc, none⟩) 8 c9a) ?_
              simp only [zz]
              refine wA (.slice A9 n9 c9) ?_
              simp only [zz]
              refine wA (.int .i64 0) ?_
              simp only [zz]
              go_upto_region 15 with fail
              refine wp_region_lit ?_
              refine wM (.int .i64 0) ?_
              simp only [zz]
              refine wR (v := .bool false) rfl (errno_eq0 rfl rfl rfl) ?_
              simp only [zz]
              go_upto_region 17 with fail
              refine wp_region_lit ?_
              refine wA (.bool false) ?_
              simp only [zz]
              go_upto_region 18 with fail
              refine wp_region_lit ?_
              refine wA (.int .i64 0) ?_
              simp only [zz]
              go_wp2_with fail
              go_loopg [15, 16] 8 (fun gk sv iv wr => ∃ i : Nat, i + gk = 8 ∧ iv = .int .i64 (i : Int) ∧ sv = .bool (someU y i) ∧ Turn nowhere w9 wr)
              case atStart => exact ⟨0, by omega, rfl, rfl, Turn.refl _ _⟩
              obtain ⟨i, hig, rfl, rfl, htr⟩ := hrel
              have HIG := zH hig
              have HTR := zH htr
              clear hig htr
              go_upto_region 19 with fail
              refine wp_region_lit ?_
              refine wM (.int .i64 (i : Int)) ?_
              simp only [zz]
              by_cases hlt : i < 8
              ·refine wR (v := .bool true) rfl (ix_lss rfl rfl rfl (decide_eq_true (by omega))) ?_
               simp only [zz]
               have HLT := zH hlt
               have HSU := zH (someU_next y i)
               clear hlt
               cases hsu : someU y i with
               | true =>
                 rw [hsu] at HSU
                 go_upto_region 21 with fail
                 refine wp_region_lit ?_
                 refine wM (.bool true) ?_
                 simp only [zz]
                 refine wM (.bool true) ?_
                 simp only [zz]
                 go_upto_region 20 with fail
                 refine wp_region_lit ?_
                 refine wM (.int .i64 (i : Int)) ?_
                 simp only [zz]
                 refine wR (v := .int .i64 ((i + 1 : Nat) : Int)) rfl (ix_add rfl rfl rfl (by have := HLT.out; omega) (by have := HLT.out; omega)) ?_
                 simp only [zz]
                 refine wA (.int .i64 ((i + 1 : Nat) : Int)) ?_
                 simp only [zz]
                 go_wp2_with fail
                 go_roundg (gk - 1)
                 case measure => have := HIG.out; have := HLT.out; omega
                 case rel => exact ⟨i + 1, by have := HIG.out; have := HLT.out; omega, by go_num, (by rw [HSU.out]; rfl), HTR.out⟩
               | false =>
                 rw [hsu] at HSU
                 go_upto_region 21 with fail
                 refine wp_region_lit ?_
                 refine wR (v := .bool false) (by go_simp) (exec_move rfl rfl) ?_
                 simp only [zz]
                 refine wR (v := .bool false) (by go_simp) (exec_move rfl rfl) ?_
                 simp only [zz]
                 refine wR (v := .slice (some ⟨gc, oc, none⟩) 8 c9a) (by go_simp) (exec_move rfl rfl) ?_
                 simp only [zz]
                 refine wR (v := .int .i64 (i : Int)) (by go_simp) (exec_move rfl rfl) ?_
                 simp only [zz]
                 refine wR (v := .pointer (some ⟨gc, oc + i * 1, none⟩)) (by go_simp) (gx_iaddr (i := i) (sz := 1) rfl rfl rfl Tryz.underlying26 size_byte1 HLT.out (by have := HLT.out; omega)) ?_
                 simp only [zz]
                 refine wR (v := .int .u8 (((be 8 y).getD i 0).toNat : Int)) (by go_simp) (exec_load1 rfl rfl (by kernel_rfl) (by rw [Nat.mul_one]; exact bs_cell (bs_still HM9.out HTR.out) HLT.out)) ?_
                 simp only [zz]
                 refine wR (v := .bool (decide (0 < ((be 8 y).getD i 0).toNat))) (by go_simp) (u8_gtr rfl rfl rfl (decide_eq_decide.2 (by omega))) ?_
                 simp only [zz]
                 refine wR (v := .bool (decide (0 < ((be 8 y).getD i 0).toNat))) (by go_simp) (ix_pickF rfl rfl rfl) ?_
                 simp only [zz]
                 refine wR (v := .bool (decide (0 < ((be 8 y).getD i 0).toNat))) (by go_simp) (gx_assign rfl rfl) ?_
                 simp only [zz]
                 go_upto_region 20 with fail
                 refine wp_region_lit ?_
                 refine wM (.int .i64 (i : Int)) ?_
                 simp only [zz]
                 refine wR (v := .int .i64 ((i + 1 : Nat) : Int)) rfl (ix_add rfl rfl rfl (by have := HLT.out; omega) (by have := HLT.out; omega)) ?_
                 simp only [zz]
                 refine wA (.int .i64 ((i + 1 : Nat) : Int)) ?_
                 simp only [zz]
                 go_wp2_with fail
                 go_roundg (gk - 1)
                 case measure => have := HIG.out; have := HLT.out; omega
                 case rel => exact ⟨i + 1, by have := HIG.out; have := HLT.out; omega, by go_num, (by rw [HSU.out, Bool.false_or]), HTR.out⟩
              ·refine wR (v := .bool false) rfl (ix_lss rfl rfl rfl (decide_eq_false (by omega))) ?_
               simp only [zz]
               obtain rfl : i = 8 := by have := HIG.out; omega
               clear hlt
               have HSE := zH (someU_end HML9.out)
               by_cases hy0 : y = 0
               ·have HE := zH (dec_map HD.out HTP.out (map_zero HK8.out HFAR.out HK9.out hy0))
                have hsu : someU y 8 = false := by
                 cases h : someU y 8 with
                 | false => rfl
                 | true => exact absurd hy0 (HSE.out.1 h)
                rw [hsu]
                clear hsu hy0 HSE
                go_upto_region 22 with fail
                refine wp_region_lit ?_
                refine wM (.bool false) ?_
                simp only [zz]
                refine wR (v := .bool true) rfl (ix_not (b := false) rfl rfl) ?_
                simp only [zz]
                go_upto_region 23 with fail
                refine wp_region_lit ?_
                refine wR (v := .agg #[.int .i64 0, .slice none 0 0]) rfl (gx_loads rfl rfl (blk_range (HB6.out.turn (((((((HT2.out.next HT3.out).next HT5.out).next HT6.out).next HT7.out).next HT8.out).next HT9.out).next HTR.out) (fun e => e))) Tryz.underlying24 rfl (by rw [size_msg]; rfl)) ?_
                simp only [zz]
                refine wpList_store_row rfl 24 (.tmp 4) (.tmp 117) rfl #[.int .i64 0, .slice none 0 0] (HB4.out.turn ((((((((HT1.out.next HT2.out).next HT3.out).next HT5.out).next HT6.out).next HT7.out).next HT8.out).next HT9.out).next HTR.out) (fun e => e)) rfl rfl rfl (by rw [size_msg]; rfl) (msgA_one _ _ _ _) ?_
                intro wz hbz huz
                have HBZ := zH hbz
                have HUZ := zH (above (((((((((HT0.out.next HT1.out).next HT2.out).next HT3.out).next HT5.out).next HT6.out).next HT7.out).next HT8.out).next HT9.out).next HTR.out) HG4.out huz)
                clear hbz huz
                try simp only [zz]
                refine wA (.int .i64 53) ?_
                simp only [zz]
                go_wp2_with fail
                refine bodyPost_ret (v := .tuple #[.agg #[.int .i64 0, .slice none 0 0], .int .i64 53]) (ret_cell2 rfl _ _ g4 _ _ _ rfl rfl HBZ.out Tryz.underlying24 rfl (by rw [size_msg]; rfl)) rfl ?_
                rw [HE.out]
                exact ⟨none, 0, 0, rfl, fl_nil _, (fun b o t e => by cases e), HUZ.out⟩
               ·have HMAP := zH (map_far HK8.out HFAR.out HK9.out hy0)
                rw [HSE.out.2 hy0]
                clear hy0 HSE
                go_upto_region 22 with fail
                refine wp_region_lit ?_
                refine wM (.bool true) ?_
                simp only [zz]
                refine wR (v := .bool false) rfl (ix_not (b := true) rfl rfl) ?_
                simp only [zz]
                go_upto_region 24 with fail
                refine wp_region_lit ?_
                refine wM (.slice A9 n9 c9) ?_
                simp only [zz]
                refine wA (.slice A9 n9 c9) ?_
                simp only [zz]
                go_upto_region 25 with fail
                refine wp_region_lit ?_
                refine wR (v := .slice (some ⟨wr.heap.size, 0, none⟩) 0 0) (w' := wr.alloc (.cells #[] 5)) rfl (exec_make0 rfl) ?_
                simp only [zz]
                refine wM (.slice (some ⟨gb, ob, none⟩) 8 c8a) ?_
                simp only [zz]
                have hown0 := Own.empty wr wr.heap.size 5 (Nat.le_refl _)
                have hb2t : Below wr.heap.size wr (wr.alloc (.cells #[] 5)) := (Below.refl _ wr).alloc (Nat.le_refl _) _
                have hte : Turn nowhere wr (wr.alloc (.cells #[] 5)) := (Turn.refl nowhere wr).alloc _
                have hle3 : wr.heap.size ≤ (wr.alloc (.cells #[] 5)).heap.size := hte.size
                have hb8 := bs_still (bs_still HM8.out (HT9.out.next HTR.out)) hte
                generalize wr.alloc (.cells #[] 5) = wa at *
                refine wpList_append_bytes wa rfl _ _ _ rfl wr.heap.size 5 byteInfo Tryz.underlying26 _ [] rfl hown0 (some ⟨gb, ob, none⟩) 8 c8a (be 8 x) rfl hb8 (fun h => by cases h) (by simp) hle3 ?_
                intro v3 wb ho3 hbl3
                rw [List.nil_append] at ho3
                have hbel := hb2t.trans hbl3
                have htb := Turn.of_below hbel (Nat.le_refl _)
                have hb9b := bs_still (bs_still HM9.out HTR.out) htb
                obtain ⟨A10, n10, c10, rfl, _, _, _⟩ := ho3.form
                try simp only [zz]
                refine wM (.slice (some ⟨gc, oc, none⟩) 8 c9a) ?_
                simp only [zz]
                refine wpList_append_bytes wb rfl _ _ _ rfl wr.heap.size 5 byteInfo Tryz.underlying26 _ (be 8 x) rfl ho3 (some ⟨gc, oc, none⟩) 8 c9a (be 8 y) rfl hb9b (fun h => by cases h) (by rw [be_len]; omega) hbel.size ?_
                intro v4 wc ho4 hbl4
                have htc := Turn.of_below (hbel.trans hbl4) (Nat.le_refl _)
                obtain ⟨A11, n11, c11, rfl, hbs11, _, _⟩ := ho4.form
                obtain rfl : n11 = 16 := by
                 have := hbs11.1
                 rw [List.length_append, be_len, be_len] at this
                 exact this.symm
                have HM11 := zH hbs11
                have HTC := zH htc
                clear hown0 hb2t hte hle3 hb8 ho3 hbl3 hbel htb hb9b ho4 hbl4 htc hbs11
                obtain ⟨gb2, ob2, rfl, _⟩ := HM11.out.2.2 (by omega)
                try simp only [zz]
                refine wA (.slice (some ⟨gb2, ob2, none⟩) 16 c11) ?_
                simp only [zz]
                go_wp2_with fail
                go_meet
                exact ⟨16, be 8 x ++ be 8 y, gb2, ob2, c11, A9, n9, c9, r9, rfl, rfl, .inr rfl, HM11.out, (bs_still HS9.out (HTR.out.next HTC.out)), HC9.out, HZ9.out, HNN9.out, HMAP.out, ((HT9.out.next HTR.out).next HTC.out)⟩
           ·rw [decide_eq_false hfar]
            go_wp2_with fail
            go_meet
            exact ⟨8, be 8 x, gb, ob, c8a, A8, n8, c8, r8, rfl, rfl, .inl rfl, HM8.out, HS8.out, HC8.out, HZ8.out, HNN8.out, map_near HK8.out hfar, Turn.refl _ _⟩
          obtain ⟨NB, BL, gbx, obx, cbx, A0, n0, c0, r0, rfl, rfl, hnb, hbl, hrs0, hc0, hz0, hnn0, hmap, htc⟩ := hcut
          have HNB := zH hnb
          have HMX := zH hbl
          have HS0 := zH hrs0
          have HC0 := zH hc0
          have HZ0 := zH hz0
          have HNN0 := zH hnn0
          have HMAP := zH hmap
          have HTCC := zH htc
          have y10 : (NB : Int) ≤ 16 := by omega
          clear hnb hbl hrs0 hc0 hz0 hnn0 hmap htc
          go_upto_region 26 with fail
          refine wp_region_lit ?_
          refine wR (v := .slice (some ⟨wc.heap.size, 0, none⟩) 0 0) (w' := wc.alloc (.cells #[] 3)) rfl (bx_slice0 rfl (build_i0 _)) ?_
          simp only [zz]
          have hir : IRow (wc.alloc (.cells #[] 3)) wc.heap.size (.slice (some ⟨wc.heap.size, 0, none⟩) 0 0) [] := World.ownsRow_made wc #[] 0 (Nat.le_refl _) (by unfold maxLen; omega) rfl
          have htn := (Turn.refl nowhere wc).alloc (.cells #[] 3)
          obtain ⟨gn, hgn⟩ : ∃ g, g = wc.heap.size := ⟨_, rfl⟩
          rw [← hgn] at hir ⊢
          have HIR := zH (show IRow (wc.alloc (.cells #[] 3)) wc.heap.size (.slice (some ⟨gn, 0, none⟩) 0 0) [] from by rw [← hgn]; exact hir)
          have HTN := zH htn
          clear hir htn hgn
          generalize wc.alloc (.cells #[] 3) = wn at *
          refine wA (.slice (some ⟨gn, 0, none⟩) 0 0) ?_
          simp only [zz]
          go_upto_region 27 with fail
          refine wp_region_lit ?_
          refine wA (.int .i64 2) ?_
          simp only [zz]
          go_wp2_with fail
          go_loopg [17, 18] (8 * NB - 1) (fun gk lv nv wr => ∃ (q0 : Nat) (L : List Int) (AL : Option Addr) (cl : Nat), 2 ≤ q0 ∧ q0 + gk = 8 * NB + 1 ∧ nv = .int .i64 (q0 : Int) ∧ lv = .slice AL L.length cl ∧ L = nosTo BL (q0 - 1) ∧ (∀ x ∈ L, (mfind x mrows).isSome = true) ∧ IRow wr wc.heap.size (.slice AL L.length cl) L ∧ Turn nowhere wc wr)
          case atStart => exact ⟨2, [], some ⟨gn, 0, none⟩, 0, by omega, by have := HNB.out; omega, rfl, rfl, (nosTo_one _).symm, (fun x hx => by cases hx), HIR.out, HTN.out⟩
          obtain ⟨q0, L, AL, cl, hq2, hqg, rfl, rfl, hLe, hall, hirow, htr⟩ := hrel
          have HQ2 := zH hq2
          have HQG := zH hqg
          have HLE := zH hLe
          have HALL := zH hall
          have HIRW := zH hirow
          have HTL := zH htr
          have HLN := zH (show L.length ≤ 128 from by
           have := nosTo_len BL (q0 - 1)
           rw [← hLe] at this
           have := HNB.out
           omega)
          clear hq2 hqg hLe hall hirow htr
          go_upto_region 28 with fail
          refine wp_region_lit ?_
          refine wM (.int .i64 (q0 : Int)) ?_
          simp only [zz]
          refine wM (.slice (some ⟨gbx, obx, none⟩) NB cbx) ?_
          simp only [zz]
          refine wR (v := .int .i64 (NB : Int)) rfl (gx_len rfl rfl Tryz.underlying26) ?_
          simp only [zz]
          refine wR (v := .int .i64 ((8 * NB : Nat) : Int)) rfl (ix_mul rfl rfl rfl (by omega) (by omega)) ?_
          simp only [zz]
          by_cases hq : q0 ≤ 8 * NB
          ·refine wR (v := .bool true) rfl (ix_leq rfl rfl rfl (decide_eq_true (by omega))) ?_
           simp only [zz]
           have HQ := zH hq
           clear hq
           go_upto_region 30 with fail
           refine wp_region_lit ?_
           refine wM (.slice (some ⟨gbx, obx, none⟩) NB cbx) ?_
           simp only [zz]
           refine wM (.int .i64 (q0 : Int)) ?_
           simp only [zz]
           refine wR (v := .int .i64 ((q0 - 1 : Nat) : Int)) rfl (ix_sub rfl rfl rfl (by have := HQ2.out; have := HQ.out; have := HNB.out; omega) (by have := HQ2.out; have := HQ.out; have := HNB.out; omega)) ?_
           simp only [zz]
           refine wR (v := .int .i64 (((q0 - 1) / 8 : Nat) : Int)) rfl (ix_quo (n := q0 - 1) (m := 8) rfl rfl rfl (by decide) (by have := HQ2.out; have := HQ.out; have := HNB.out; omega)) ?_
           simp only [zz]
           refine wR (v := .pointer (some ⟨gbx, obx + (q0 - 1) / 8 * 1, none⟩)) rfl (gx_iaddr (i := (q0 - 1) / 8) (sz := 1) rfl rfl rfl Tryz.underlying26 size_byte1 (by have := HQ2.out; have := HQ.out; have := HNB.out; omega) (by have := HQ2.out; have := HQ.out; have := HNB.out; omega)) ?_
           simp only [zz]
           refine wR (v := .int .u8 ((BL.getD ((q0 - 1) / 8) 0).toNat : Int)) rfl (exec_load1 rfl rfl (by kernel_rfl) (by rw [Nat.mul_one]; exact bs_cell (bs_still HMX.out HTL.out) (by have := HQ2.out; have := HQ.out; have := HNB.out; omega))) ?_
           simp only [zz]
           refine wM (.int .i64 (q0 : Int)) ?_
           simp only [zz]
           refine wR (v := .int .i64 ((q0 - 1 : Nat) : Int)) rfl (ix_sub rfl rfl rfl (by have := HQ2.out; have := HQ.out; have := HNB.out; omega) (by have := HQ2.out; have := HQ.out; have := HNB.out; omega)) ?_
           simp only [zz]
           refine wR (v := .int .i64 (((q0 - 1) % 8 : Nat) : Int)) rfl (ix_rem (n := q0 - 1) (m := 8) rfl rfl rfl (by decide) (by have := HQ2.out; have := HQ.out; have := HNB.out; omega)) ?_
           simp only [zz]
           refine wR (v := .int .i64 ((7 - (q0 - 1) % 8 : Nat) : Int)) rfl (ix_sub rfl rfl rfl (by omega) (by omega)) ?_
           simp only [zz]
           refine wR (v := .int .u8 (((BL.getD ((q0 - 1) / 8) 0).toNat / 2 ^ (7 - (q0 - 1) % 8) : Nat) : Int)) rfl (u8_shr (n := (BL.getD ((q0 - 1) / 8) 0).toNat) (k := 7 - (q0 - 1) % 8) rfl rfl rfl (UInt8.toNat_lt _) (by omega)) ?_
           simp only [zz]
           refine wR (v := .int .u8 (((BL.getD ((q0 - 1) / 8) 0).toNat / 2 ^ (7 - (q0 - 1) % 8) % 2 : Nat) : Int)) rfl (u8_rem2 (n := (BL.getD ((q0 - 1) / 8) 0).toNat / 2 ^ (7 - (q0 - 1) % 8)) rfl rfl) ?_
           simp only [zz]
           refine wR (v := .bool (bitB BL (q0 - 1))) rfl (u8_eql rfl rfl rfl (bitB_eq _ _)) ?_
           simp only [zz]
           have HNX := zH (nosTo_next BL (k := q0 - 1) (by have := HQ2.out; omega))
           cases hbit : bitB BL (q0 - 1) with
           | false =>
             have HLX := zH (show L = nosTo BL (q0 + 1 - 1) from by
              have h := HNX.out
              rw [hbit, if_neg (by decide), List.append_nil, show q0 - 1 + 1 = q0 + 1 - 1 from by have := HQ2.out; omega] at h
              rw [h]
              exact HLE.out)
             clear hbit
             go_upto_region 29 with fail
             refine wp_region_lit ?_
             refine wM (.int .i64 (q0 : Int)) ?_
             simp only [zz]
             refine wR (v := .int .i64 ((q0 + 1 : Nat) : Int)) rfl (ix_add rfl rfl rfl (by omega) (by have := HQ.out; have := HNB.out; omega)) ?_
             simp only [zz]
             refine wA (.int .i64 ((q0 + 1 : Nat) : Int)) ?_
             simp only [zz]
             go_wp2_with fail
             go_roundg (gk - 1)
             case measure => have := HQG.out; have := HQ.out; omega
             case rel => exact ⟨q0 + 1, L, AL, cl, by have := HQ2.out; omega, by have := HQG.out; have := HQ.out; omega, by go_num, rfl, HLX.out, HALL.out, HIRW.out, HTL.out⟩
           | true =>
             have HLX := zH (show L ++ [(q0 : Int)] = nosTo BL (q0 + 1 - 1) from by
              have h := HNX.out
              rw [hbit, if_pos rfl, show q0 - 1 + 1 = q0 + 1 - 1 from by have := HQ2.out; omega, show q0 + 1 - 1 = q0 from by omega] at h
              rw [show q0 + 1 - 1 = q0 from by omega, h, ← HLE.out])
             have HMEM := zH (show (q0 : Int) ∈ nosTo BL (8 * NB) from by
              have h := nosTo_mem (l := BL) (k := (8 * NB)) (i := q0 - 1) (by have := HQ.out; have := HQ2.out; omega) (by have := HQ2.out; omega) hbit
              rwa [show q0 - 1 + 1 = q0 from by have := HQ2.out; omega] at h)
             clear hbit
             go_upto_region 31 with fail
             refine wp_region_lit ?_
             refine wM (.int .i64 (q0 : Int)) ?_
             simp only [zz]
             have hTH := there_turn (w := wr) (no := (q0 : Int))
             cases hth : mfind (q0 : Int) mrows with
             | none =>
               rw [there_none hth] at hTH
               have HE := zH (dec_form HD.out HTP.out HMAP.out (allF_not HMEM.out hth))
               clear hth
               refine wpList_op rfl fun K9 HK9 => ?_
               go_wp2_with fail
               refine (hTH).mono ?_
               rintro e wt ⟨rfl, htx⟩
               refine HK9.out _ _ ?_
               clear HK9
               try simp only [zz]
               clear hTH
               have HTT := zH htx
               clear htx
               refine wM (.tuple #[.int .i64 0, .int .i64 0]) ?_
               simp only [zz]
               refine wE (.int .i64 0) ?_
               simp only [zz]
               refine wE (.int .i64 0) ?_
               simp only [zz]
               refine wA (.int .i64 0) ?_
               simp only [zz]
               refine wA (.int .i64 0) ?_
               simp only [zz]
               go_upto_region 32 with fail
               refine wp_region_lit ?_
               refine wM (.int .i64 0) ?_
               simp only [zz]
               refine wR (v := .bool true) rfl (ix_eql rfl rfl rfl (by decide)) ?_
               simp only [zz]
               go_upto_region 33 with fail
               refine wp_region_lit ?_
               refine wR (v := .agg #[.int .i64 0, .slice none 0 0]) rfl (gx_loads rfl rfl (blk_range (HB6.out.turn ((((((((HT2.out.next HT3.out).next HT5.out).next HT6.out).next HT7.out).next HT8.out).next HTCC.out).next HTL.out).next HTT.out) (fun e => e))) Tryz.underlying24 rfl (by rw [size_msg]; rfl)) ?_
               simp only [zz]
               refine wpList_store_row rfl 24 (.tmp 4) (.tmp 152) rfl #[.int .i64 0, .slice none 0 0] (HB4.out.turn (((((((((HT1.out.next HT2.out).next HT3.out).next HT5.out).next HT6.out).next HT7.out).next HT8.out).next HTCC.out).next HTL.out).next HTT.out) (fun e => e)) rfl rfl rfl (by rw [size_msg]; rfl) (msgA_one _ _ _ _) ?_
               intro wz hbz huz
               have HBZ := zH hbz
               have HUZ := zH (above ((((((((((HT0.out.next HT1.out).next HT2.out).next HT3.out).next HT5.out).next HT6.out).next HT7.out).next HT8.out).next HTCC.out).next HTL.out).next HTT.out) HG4.out huz)
               clear hbz huz
               try simp only [zz]
               refine wA (.int .i64 52) ?_
               simp only [zz]
               go_wp2_with fail
               refine bodyPost_ret (v := .tuple #[.agg #[.int .i64 0, .slice none 0 0], .int .i64 52]) (ret_cell2 rfl _ _ g4 _ _ _ rfl rfl HBZ.out Tryz.underlying24 rfl (by rw [size_msg]; rfl)) rfl ?_
               rw [HE.out]
               exact ⟨none, 0, 0, rfl, fl_nil _, (fun b o t e => by cases e), HUZ.out⟩
             | some rr =>
               rw [there_some hth] at hTH
               have HRP := zH (mfind_pos hth)
               have HAL2 := zH (show ∀ z ∈ L ++ [(q0 : Int)], (mfind z mrows).isSome = true from fun z hz => by
                rcases List.mem_append.1 hz with hz | hz
                ·exact HALL.out z hz
                ·rw [List.mem_singleton] at hz
                 rw [hz, hth]
                 rfl)
               clear hth
               refine wpList_op rfl fun K9 HK9 => ?_
               go_wp2_with fail
               refine (hTH).mono ?_
               rintro e wt ⟨rfl, htx⟩
               refine HK9.out _ _ ?_
               clear HK9
               try simp only [zz]
               clear hTH
               have HTT := zH htx
               clear htx
               refine wM (.tuple #[.int .i64 rr.1, .int .i64 rr.2]) ?_
               simp only [zz]
               refine wE (.int .i64 rr.1) ?_
               simp only [zz]
               refine wE (.int .i64 rr.2) ?_
               simp only [zz]
               refine wA (.int .i64 rr.1) ?_
               simp only [zz]
               refine wA (.int .i64 rr.2) ?_
               simp only [zz]
               go_upto_region 32 with fail
               refine wp_region_lit ?_
               refine wM (.int .i64 rr.1) ?_
               simp only [zz]
               refine wR (v := .bool false) rfl (ix_eql rfl rfl rfl (decide_eq_false HRP.out)) ?_
               simp only [zz]
               obtain ⟨A7, c7, w7, hrun, hrow7, ht7⟩ := ints_append (ty := 63) (c := 1) (A := ⟨wt.heap.size, 0, none⟩) (news := [(q0 : Int)]) (m := 1) (irow_alloc (HIRW.out.still_ HTT.out) (.cells #[.int .i64 (q0 : Int)] 3)) ((HTL.out.next HTT.out).alloc _) rfl (fun j u hj => by
                have hj0 : j = 0 := by
                 have := (List.getElem?_eq_some_iff.1 hj).1
                 simp at this
                 omega
                subst hj0
                rw [add_nat]
                rw [(Blk.new wt 3 #[.int .i64 (q0 : Int)]).cell]
                simpa using hj) (by have := HLN.out; omega)
               have HRN := zH hrun
               have HR7 := zH hrow7
               have HT7 := zH ht7
               clear hrun hrow7 ht7
               go_upto_region 34 with fail
               refine wp_region_lit ?_
               refine wM (.slice AL L.length cl) ?_
               simp only [zz]
               refine wM (.int .i64 (q0 : Int)) ?_
               simp only [zz]
               refine wR (v := .slice (some ⟨wt.heap.size, 0, none⟩) 1 1) (w' := wt.alloc (.cells #[.int .i64 (q0 : Int)] 3)) rfl (bx_slice1 rfl rfl (build_i1 (q0 : Int) _)) ?_
               simp only [zz]
               refine wR (v := .slice A7 (L.length + 1) c7) (w' := w7) rfl (exec_append rfl rfl rfl HRN.out) ?_
               simp only [zz]
               refine wA (.slice A7 (L.length + 1) c7) ?_
               simp only [zz]
               clear HRN
               go_upto_region 29 with fail
               refine wp_region_lit ?_
               refine wM (.int .i64 (q0 : Int)) ?_
               simp only [zz]
               refine wR (v := .int .i64 ((q0 + 1 : Nat) : Int)) rfl (ix_add rfl rfl rfl (by omega) (by have := HQ.out; have := HNB.out; omega)) ?_
               simp only [zz]
               refine wA (.int .i64 ((q0 + 1 : Nat) : Int)) ?_
               simp only [zz]
               go_wp2_with fail
               go_roundg (gk - 1)
               case measure => have := HQG.out; have := HQ.out; omega
               case rel => exact ⟨q0 + 1, L ++ [(q0 : Int)], A7, c7, by have := HQ2.out; omega, by have := HQG.out; have := HQ.out; omega, by go_num, by rw [List.length_append]; rfl, HLX.out, HAL2.out, by rw [List.length_append]; exact HR7.out, HT7.out⟩
          ·refine wR (v := .bool false) rfl (ix_leq rfl rfl rfl (decide_eq_false (by omega))) ?_
           simp only [zz]
           have hq0 : q0 = 8 * NB + 1 := by have := HQG.out; omega
           have HMP := zH (show takeMap d r3 = .ok (L, r0) from by rw [HMAP.out, HLE.out, hq0, Nat.add_sub_cancel])
           have HAF := zH (allF_true (d := d) HALL.out)
           clear hq hq0 HQ2 HQG HLE HALL
           go_upto_region 35 with fail
           refine wp_region_lit ?_
           refine wA (.int .i64 0) ?_
           simp only [zz]
           have HXW := zH (HBX.out.turn ((((HT6.out.next HT7.out).next HT8.out).next HTCC.out).next HTL.out) (fun e => e))
           have H4W := zH (HB4.out.turn ((((((((HT1.out.next HT2.out).next HT3.out).next HT5.out).next HT6.out).next HT7.out).next HT8.out).next HTCC.out).next HTL.out) (fun e => e))
           have H6W := zH (HB6.out.turn (((((((HT2.out.next HT3.out).next HT5.out).next HT6.out).next HT7.out).next HT8.out).next HTCC.out).next HTL.out) (fun e => e))
           have HRW0 := zH (restAt_of (bs_still HS0.out HTL.out))
           have HTW := zH (((((((((HT0.out.next HT1.out).next HT2.out).next HT3.out).next HT5.out).next HT6.out).next HT7.out).next HT8.out).next HTCC.out).next HTL.out)
           have HGG := zH (show g4 ≠ g10 ∧ g6 ≠ g10 ∧ w.heap.size ≤ g10 from ⟨by have := HB4.out.lt; have := HG10.out; have h1 := ((HT1.out.next HT2.out).next HT3.out).size; omega, by have := HB6.out.lt; have := HG10.out; have h1 := (HT2.out.next HT3.out).size; omega, by have := HG10.out; have h1 := (((HT0.out.next HT1.out).next HT2.out).next HT3.out).size; omega⟩)
           obtain ⟨wq, hwq⟩ : ∃ wo, wo = wr := ⟨_, rfl⟩
           rw [← hwq] at HXW H4W H6W HRW0 HTW HIRW ⊢
           clear hwq
           go_wp2_with fail
           go_loopg [8, 21] L.length (fun gk rv iv wr => ∃ (j : Nat) (acc : List Fld) (rr : List UInt8) (AR : Option Addr) (nr cr : Nat) (B : Option Addr) (k dk : Nat), j + gk = L.length ∧ iv = .int .i64 (j : Int) ∧ rv = .slice AR nr cr ∧ RestAt wq wr AR nr rr ∧ nr ≤ cr ∧ (AR = none → cr = 0) ∧ nr ≤ 140737488355328 ∧ takeFs d L r0 = fsQ acc (takeFs d (L.drop j) rr) ∧ k ≤ j ∧ RS (ty : Int) g10 wq wr acc B k dk)
           case atStart => exact ⟨0, [], r0, A0, n0, c0, none, 0, 0, by omega, rfl, rfl, HRW0.out, HC0.out, HZ0.out, HNN0.out, by rw [List.drop_zero, fsQ_nil], Nat.le_refl _, ⟨HXW.out, FRow.nil _ _, rfl, Turn.refl _ _⟩⟩
           obtain ⟨j, acc, rr, AR, nr, cr, B, k, dk, hjg, rfl, rfl, hra, hrc, hrz, hrn, hfs, hkj, hrs⟩ := hrel
           have HJG := zH hjg
           have HRA := zH hra
           have HRC := zH hrc
           have HRZ := zH hrz
           have HRN := zH hrn
           have HFS := zH hfs
           have HKJ := zH hkj
           have HRS := zH hrs
           have H4 := zH (H4W.out.turn hrs.tr (fun e => HGG.out.1 e))
           have H6 := zH (H6W.out.turn hrs.tr (fun e => HGG.out.2.1 e))
           have HTV := zH (show Turn nowhere w wr from HTW.out.trans hrs.tr (fun q hq e => by
            have e : q = g10 := e
            have := HGG.out.2.2
            omega))
           clear hjg hra hrc hrz hrn hfs hkj hrs
           go_upto_region 36 with fail
           refine wp_region_lit ?_
           refine wM (.int .i64 (j : Int)) ?_
           simp only [zz]
           refine wM (.slice AL L.length cl) ?_
           simp only [zz]
           refine wR (v := .int .i64 (L.length : Int)) rfl (gx_len rfl rfl Tryz.underlying63) ?_
           simp only [zz]
           by_cases hlt : j < L.length
           ·have HLT := zH hlt
            have y1 : (j : Int) < (L.length : Int) := by omega
            obtain ⟨x5, hx5⟩ : ∃ x5, L[j]? = some x5 := ⟨_, List.getElem?_eq_getElem hlt⟩
            obtain ⟨m, hm⟩ := allF_at HAF.out hx5
            have HM := zH hm
            have HST := zH (fs_step hx5 hm HFS.out)
            obtain ⟨gl, hAL, hcell⟩ := irow_cell HIRW.out hx5
            have hglg : gl ≠ g10 := irow_ne HIRW.out HXW.out (by decide) gl (by rw [hAL]; rfl)
            subst hAL
            have HCX := zH (show wr.cell? ⟨gl, 0 + j * 1, none⟩ = some (.int .i64 x5) from by
             rw [Nat.zero_add, Nat.mul_one]
             exact (HRS.out.tr.cell (World.block_lt_of_cell? _ _ hcell) (fun e => hglg e)).trans hcell)
            have HCW := zH (World.block_lt_of_cell? _ _ hcell)
            clear hx5 hm hcell hglg hlt
            refine wR (v := .bool true) rfl (ix_lss rfl rfl rfl (decide_eq_true y1)) ?_
            simp only [zz]
            go_upto_region 38 with fail
            refine wp_region_lit ?_
            refine wM (.int .i64 (d : Int)) ?_
            simp only [zz]
            refine wM (.slice (some ⟨gl, 0, none⟩) L.length cl) ?_
            simp only [zz]
            refine wM (.int .i64 (j : Int)) ?_
            simp only [zz]
            refine wR (v := .pointer (some ⟨gl, 0 + j * 1, none⟩)) rfl (gx_iaddr (i := j) (sz := 1) rfl rfl rfl Tryz.underlying63 size_int1 HLT.out (by have := HLN.out; omega)) ?_
            simp only [zz]
            refine wR (v := .int .i64 x5) rfl (exec_load1 rfl rfl (by kernel_rfl) HCX.out) ?_
            simp only [zz]
            have hF := rForm_walk (w := wr) (dd := (d : Int)) (no := x5)
            rw [formE_at HD.out HM.out] at hF
            refine wpList_op rfl fun K9 HK9 => ?_
            go_wp2_with fail
            refine (hF).mono ?_
            rintro e wf ⟨rfl, htx⟩
            refine HK9.out _ _ ?_
            clear HK9
            try simp only [zz]
            clear hF
            have HTF := zH htx
            clear htx
            refine wM (.tuple #[.agg (fmA m), .int .i64 0]) ?_
            simp only [zz]
            refine wE (.agg (fmA m)) ?_
            simp only [zz]
            refine wE (.int .i64 0) ?_
            simp only [zz]
            refine wpList_new 49 (.tmp 22) (.tmp 170) (fmA m) rfl rfl (zero_fm _) rfl rfl rfl rfl rfl rfl (by rw [size_form]; rfl) (fmA_one m) ?_
            intro wg gf _ hbx hux
            simp only [zz]
            have HBF := zH hbx
            have HTG := zH hux
            clear hbx hux
            refine wA (.int .i64 0) ?_
            simp only [zz]
            go_upto_region 39 with fail
            refine wp_region_lit ?_
            refine wM (.slice AR nr cr) ?_
            simp only [zz]
            refine wR (v := .agg (fmA m)) rfl (gx_loads rfl rfl (blk_range HBF.out) Tryz.underlying49 rfl (by rw [size_form]; rfl)) ?_
            simp only [zz]
            have HRB := zH ((HRA.out.still (HTF.out.next HTG.out)).1)
            cases hk : m.take rr with
            | error kk =>
              have HKN := zH (ftake_err hk)
              have HE := zH (dec_fs HD.out HTP.out HMP.out HAF.out (HST.out.1 _ hk))
              have hT : Calls Tryz.prog 29 #[.slice AR nr cr, .agg (fmA m)] wg fun e w' => ∃ A n c, e = .returned (.tuple #[strV [], .slice A n c, .int .i64 kk]) ∧ Own w' wg.heap.size 5 (.slice A n c) [] ∧ Turn nowhere wg w' := by
               have h := rtake_all (f := m) HRB.out HRC.out HRZ.out HRN.out
               rw [hk] at h
               exact h
              refine wpList_op rfl fun K9 HK9 => ?_
              go_wp2_with fail
              refine (hT).mono ?_
              rintro e wh ⟨A5, n5, c5, rfl, hox, htx⟩
              refine HK9.out _ _ ?_
              clear HK9
              try simp only [zz]
              clear hT
              have HT5 := zH htx
              clear htx
              obtain ⟨A9, n9, c9, hf9, hb9, hnc9, hz9⟩ := hox.form
              injection hf9 with q1 q2 q3
              subst q1 q2 q3
              have HS5 := zH hb9
              have HC5 := zH hnc9
              have HZ5 := zH hz9
              clear hox hb9 hnc9 hz9
              clear hk
              refine wM (.tuple #[strV [], .slice A5 n5 c5, .int .i64 kk]) ?_
              simp only [zz]
              refine wE (strV []) ?_
              simp only [zz]
              refine wE (.slice A5 n5 c5) ?_
              simp only [zz]
              refine wE (.int .i64 kk) ?_
              simp only [zz]
              refine wA (strV []) ?_
              simp only [zz]
              refine wA (.slice A5 n5 c5) ?_
              simp only [zz]
              refine wA (.int .i64 kk) ?_
              simp only [zz]
              go_upto_region 40 with fail
              refine wp_region_lit ?_
              refine wM (.int .i64 kk) ?_
              simp only [zz]
              refine wR (v := .bool true) rfl (errno_ne rfl rfl rfl HKN.out) ?_
              simp only [zz]
              go_upto_region 41 with fail
              refine wp_region_lit ?_
              refine wR (v := .agg #[.int .i64 0, .slice none 0 0]) rfl (gx_loads rfl rfl (blk_range (H6.out.turn ((HTF.out.next HTG.out).next HT5.out) (fun e => e))) Tryz.underlying24 rfl (by rw [size_msg]; rfl)) ?_
              simp only [zz]
              refine wM (.int .i64 kk) ?_
              simp only [zz]
              refine wpList_store_row rfl 24 (.tmp 4) (.tmp 181) rfl #[.int .i64 0, .slice none 0 0] (H4.out.turn ((HTF.out.next HTG.out).next HT5.out) (fun e => e)) rfl rfl rfl (by rw [size_msg]; rfl) (msgA_one _ _ _ _) ?_
              intro wz hbz huz
              have HBZ := zH hbz
              have HUZ := zH (above (((HTV.out.next HTF.out).next HTG.out).next HT5.out) HG4.out huz)
              clear hbz huz
              try simp only [zz]
              refine wA (.int .i64 kk) ?_
              simp only [zz]
              go_wp2_with fail
              refine bodyPost_ret (v := .tuple #[.agg #[.int .i64 0, .slice none 0 0], .int .i64 kk]) (ret_cell2 rfl _ _ g4 _ _ _ rfl rfl HBZ.out Tryz.underlying24 rfl (by rw [size_msg]; rfl)) rfl ?_
              rw [HE.out]
              exact ⟨none, 0, 0, rfl, fl_nil _, (fun b o t e => by cases e), HUZ.out⟩
            | ok p =>
              obtain ⟨t5, r5⟩ := p
              have HFN := zH (HST.out.2 _ _ hk)
              have HTXL := zH (show t5.length ≤ 130 from by
               obtain ⟨k1, s1, hm1, hk1, hs1, _⟩ := form_nf HM.out
               obtain ⟨h1, _⟩ := fm_one (k := k1) (s := s1) (c := d) hk1 HD.out hs1 (by rw [← hm1]; exact hk)
               exact right_small hk1 hs1 h1)
              have HRL := zH (show r5.length ≤ rr.length from by
               have h := tk_len m rr
               rw [hk] at h
               exact h)
              have hT : Calls Tryz.prog 29 #[.slice AR nr cr, .agg (fmA m)] wg fun e w' => ∃ A n c, e = .returned (.tuple #[strV t5, .slice A n c, .int .i64 0]) ∧ Own w' wg.heap.size 5 (.slice A n c) r5 ∧ Turn nowhere wg w' := by
               have h := rtake_all (f := m) HRB.out HRC.out HRZ.out HRN.out
               rw [hk] at h
               exact h
              refine wpList_op rfl fun K9 HK9 => ?_
              go_wp2_with fail
              refine (hT).mono ?_
              rintro e wh ⟨A5, n5, c5, rfl, hox, htx⟩
              refine HK9.out _ _ ?_
              clear HK9
              try simp only [zz]
              clear hT
              have HT5 := zH htx
              clear htx
              have HOX5 := zH (restAt_own (wq := wq) hox)
              obtain ⟨A9, n9, c9, hf9, hb9, hnc9, hz9⟩ := hox.form
              injection hf9 with q1 q2 q3
              subst q1 q2 q3
              have HS5 := zH hb9
              have HC5 := zH hnc9
              have HZ5 := zH hz9
              clear hox hb9 hnc9 hz9
              clear hk
              have HN5 := zH (show n5 ≤ 140737488355328 from by have := HS5.out.1; have := HRL.out; have := HRB.out.1; have := HRN.out; omega)
              refine wM (.tuple #[strV t5, .slice A5 n5 c5, .int .i64 0]) ?_
              simp only [zz]
              refine wE (strV t5) ?_
              simp only [zz]
              refine wE (.slice A5 n5 c5) ?_
              simp only [zz]
              refine wE (.int .i64 0) ?_
              simp only [zz]
              refine wA (strV t5) ?_
              simp only [zz]
              refine wA (.slice A5 n5 c5) ?_
              simp only [zz]
              refine wA (.int .i64 0) ?_
              simp only [zz]
              go_upto_region 40 with fail
              refine wp_region_lit ?_
              refine wM (.int .i64 0) ?_
              simp only [zz]
              refine wR (v := .bool false) rfl (errno_eq0 rfl rfl rfl) ?_
              simp only [zz]
              go_upto_region 42 with fail
              refine wp_region_lit ?_
              refine wM (.slice A5 n5 c5) ?_
              simp only [zz]
              refine wA (.slice A5 n5 c5) ?_
              simp only [zz]
              have HT3V := zH (show Turn nowhere wr wh from (HTF.out.next HTG.out).next HT5.out)
              have HRSh := zH (HRS.out.still HT3V.out)
              have HCXh := zH ((HT3V.out.cell (World.block_lt_of_cell? _ _ HCX.out) (fun e => e)).trans HCX.out)
              go_upto_region 43 with fail
              refine wp_region_lit ?_
              refine wM (.int .i64 (d : Int)) ?_
              simp only [zz]
              by_cases h3 : d = 3
              ·refine wR (v := .bool true) rfl (ix_eql rfl rfl rfl (decide_eq_true (by omega))) ?_
               simp only [zz]
               refine wM (.bool true) ?_
               simp only [zz]
               refine wM (.slice (some ⟨gl, 0, none⟩) L.length cl) ?_
               simp only [zz]
               refine wM (.int .i64 (j : Int)) ?_
               simp only [zz]
               refine wR (v := .pointer (some ⟨gl, 0 + j * 1, none⟩)) rfl (gx_iaddr (i := j) (sz := 1) rfl rfl rfl Tryz.underlying63 size_int1 HLT.out (by have := HLN.out; omega)) ?_
               simp only [zz]
               refine wR (v := .int .i64 x5) rfl (exec_load1 rfl rfl (by kernel_rfl) HCXh.out) ?_
               simp only [zz]
               by_cases h4 : x5 = 4
               ·have HU := zH (show unsaid d x5 = [48, 48] from by unfold unsaid; rw [if_pos ⟨h3, h4⟩])
                have H44 := zH h4
                clear h3 h4
                refine wR (v := .bool true) rfl (ix_eql rfl rfl rfl (decide_eq_true H44.out)) ?_
                simp only [zz]
                refine wR (v := .bool true) rfl (ix_pickT rfl rfl rfl) ?_
                simp only [zz]
                go_upto_region 44 with fail
                refine wp_region_lit ?_
                refine wM (strV t5) ?_
                simp only [zz]
                refine wR (v := strV ([48, 48] ++ t5)) rfl (exec_sadd (l := [48, 48]) (m := t5) rfl rfl rfl (by have := HTXL.out; simp only [List.length_cons, List.length_nil]; omega)) ?_
                simp only [zz]
                refine wA (strV ([48, 48] ++ t5)) ?_
                simp only [zz]
                have HF2 := zH (show takeFs d L r0 = fsQ (acc ++ [(x5, ([48, 48] ++ t5))]) (takeFs d (L.drop (j + 1)) r5) from by
                 have h := HFN.out
                 rw [HU.out] at h
                 exact h)
                obtain ⟨B5, d5, w5x, hrun, hbk, htn, hgr, hadd⟩ := RS.add2 (RS.drew HRSh.out) HXW.out.lt (x5, ([48, 48] ++ t5)) (by have := HKJ.out; have := HLN.out; have := HLT.out; omega)
                have HRN5 := zH hrun
                have HB5x := zH hbk
                have HTN5 := zH htn
                have HGR5 := zH hgr
                have HA5 := zH hadd
                clear hrun hbk htn hgr hadd
                go_upto_region 45 with fail
                refine wp_region_till (fun W => Blk W g10 24 #[.int .i64 (ty : Int), .slice B k dk] ∧ W.cell? ⟨gl, 0 + j * 1, none⟩ = some (.int .i64 x5)) 11 (by kernel_rfl) ?_
                have hS0 : Blk wh.drew g10 24 #[.int .i64 (ty : Int), .slice B k dk] ∧ wh.drew.cell? ⟨gl, 0 + j * 1, none⟩ = some (.int .i64 x5) := ⟨HRSh.out.bk.drew, HCXh.out⟩
                refine tT (i := 0) (v := .pointer (some ⟨g10, 1, none⟩)) rfl (by kernel_rfl) (by kernel_rfl) (fun W hW => exec_field (off := 0) (d := 1) rfl rfl (by kernel_rfl)) hS0 ?_
                simp only [zz]
                refine tT (i := 1) (v := .slice B k dk) rfl (by kernel_rfl) (by kernel_rfl) (fun W hW => exec_load1 rfl rfl (by kernel_rfl) (hW.1.cell 1)) hS0 ?_
                simp only [zz]
                refine tT (i := 2) (v := .slice (some ⟨gl, 0, none⟩) L.length cl) rfl (by kernel_rfl) (by kernel_rfl) (fun W hW => exec_move rfl rfl) hS0 ?_
                simp only [zz]
                refine tT (i := 3) (v := .int .i64 (j : Int)) rfl (by kernel_rfl) (by kernel_rfl) (fun W hW => exec_move rfl rfl) hS0 ?_
                simp only [zz]
                refine tT (i := 4) (v := .pointer (some ⟨gl, 0 + j * 1, none⟩)) rfl (by kernel_rfl) (by kernel_rfl) (fun W hW => gx_iaddr (i := j) (sz := 1) rfl rfl rfl Tryz.underlying63 size_int1 HLT.out (by have := HLN.out; omega)) hS0 ?_
                simp only [zz]
                refine tT (i := 5) (v := .int .i64 x5) rfl (by kernel_rfl) (by kernel_rfl) (fun W hW => exec_load1 rfl rfl (by kernel_rfl) hW.2) hS0 ?_
                simp only [zz]
                refine tT (i := 6) (v := strV ([48, 48] ++ t5)) rfl (by kernel_rfl) (by kernel_rfl) (fun W hW => exec_move rfl rfl) hS0 ?_
                simp only [zz]
                refine tT (i := 7) (v := .agg (fldA (x5, ([48, 48] ++ t5)))) rfl (by kernel_rfl) (by kernel_rfl) (fun W hW => gx_build2 rfl rfl rfl (build_fldM x5 ([48, 48] ++ t5) W)) hS0 ?_
                simp only [zz]
                refine till_step (i := 8) (by kernel_rfl) rfl rfl ?_
                intro K1 HK1
                refine wp_run (bx_slice1 rfl rfl (build_f1 (x5, ([48, 48] ++ t5)) _)) ?_
                have ha7 := (Turn.refl nowhere wh.drew).alloc (.cells (fldA (x5, ([48, 48] ++ t5))) 40)
                refine HK1.out _ _ ⟨fun _ => ⟨hS0.1.turn ha7 (fun e => e), (ha7.cell (World.block_lt_of_cell? _ _ hS0.2) (fun e => e)).trans hS0.2⟩, ?_⟩
                clear HK1 ha7
                try simp only [zz]
                refine till_step (i := 9) (by kernel_rfl) rfl rfl ?_
                intro K1 HK1
                refine wp_run (exec_append rfl rfl rfl HRN5.out) ?_
                have hS8 : Blk w5x g10 24 #[.int .i64 (ty : Int), .slice B k dk] ∧ w5x.cell? ⟨gl, 0 + j * 1, none⟩ = some (.int .i64 x5) := ⟨HB5x.out, (HTN5.out.cell (World.block_lt_of_cell? _ _ hS0.2) (fun e => by
                 have e : wq.heap.size ≤ gl := e
                 have := HCW.out
                 omega)).trans hS0.2⟩
                refine HK1.out _ _ ⟨fun _ => hS8, ?_⟩
                clear HK1 hS0
                try simp only [zz]
                refine tT (i := 10) (v := .pointer (some ⟨g10, 1, none⟩)) rfl (by kernel_rfl) (by kernel_rfl) (fun W hW => exec_field (off := 0) (d := 1) rfl rfl (by kernel_rfl)) hS8 ?_
                simp only [zz]
                clear hS8
                refine till_step (i := 11) (by kernel_rfl) rfl rfl ?_
                intro K1 HK1
                refine wp_storeF (v := .slice B5 (k + 1) d5) 22 (.tmp 205) (.tmp 204) rfl HB5x.out rfl rfl (show 1 < 2 from by decide) rfl rfl size_sl ?_
                intro hbz huz
                have HS5z := zH (HA5.out _ hbz huz)
                have HR5z := zH (((HOX5.out.still ((Turn.refl nowhere wh).drew)).add (RS.drew HRSh.out).ro (x5, ([48, 48] ++ t5)) HGR5.out).store HB5x.out huz)
                refine HK1.out _ _ ⟨fun e => absurd e (by decide), ?_⟩
                clear HK1 hbz huz
                generalize w5x.setCell ⟨g10, 1, none⟩ (.slice B5 (k + 1) d5) = wz5 at *
                try simp only [zz]
                refine till_done rfl ?_
                refine NoPanic.normal ?_
                go_upto_region 37 with fail
                refine wp_region_lit ?_
                refine wM (.int .i64 (j : Int)) ?_
                simp only [zz]
                refine wR (v := .int .i64 ((j + 1 : Nat) : Int)) rfl (ix_add rfl rfl rfl (by omega) (by have := HLN.out; omega)) ?_
                simp only [zz]
                refine wA (.int .i64 ((j + 1 : Nat) : Int)) ?_
                simp only [zz]
                go_wp2_with fail
                go_roundg (gk - 1)
                case measure => have := HJG.out; have := HLT.out; omega
                case rel => exact ⟨j + 1, acc ++ [(x5, ([48, 48] ++ t5))], r5, A5, n5, c5, B5, k + 1, d5, by have := HJG.out; have := HLT.out; omega, by go_num, rfl, HR5z.out, HC5.out, HZ5.out, HN5.out, HF2.out, by have := HKJ.out; omega, HS5z.out⟩
               ·have HU := zH (show unsaid d x5 = [] from by unfold unsaid; rw [if_neg (fun h => h4 h.2)])
                have H44 := zH h4
                clear h3 h4
                refine wR (v := .bool false) rfl (ix_eql rfl rfl rfl (decide_eq_false H44.out)) ?_
                simp only [zz]
                refine wR (v := .bool false) rfl (ix_pickT rfl rfl rfl) ?_
                simp only [zz]
                have HF2 := zH (show takeFs d L r0 = fsQ (acc ++ [(x5, t5)]) (takeFs d (L.drop (j + 1)) r5) from by
                 have h := HFN.out
                 rw [HU.out, List.nil_append] at h
                 exact h)
                obtain ⟨B5, d5, w5x, hrun, hbk, htn, hgr, hadd⟩ := RS.add2 (RS.drew HRSh.out) HXW.out.lt (x5, t5) (by have := HKJ.out; have := HLN.out; have := HLT.out; omega)
                have HRN5 := zH hrun
                have HB5x := zH hbk
                have HTN5 := zH htn
                have HGR5 := zH hgr
                have HA5 := zH hadd
                clear hrun hbk htn hgr hadd
                go_upto_region 45 with fail
                refine wp_region_till (fun W => Blk W g10 24 #[.int .i64 (ty : Int), .slice B k dk] ∧ W.cell? ⟨gl, 0 + j * 1, none⟩ = some (.int .i64 x5)) 11 (by kernel_rfl) ?_
                have hS0 : Blk wh.drew g10 24 #[.int .i64 (ty : Int), .slice B k dk] ∧ wh.drew.cell? ⟨gl, 0 + j * 1, none⟩ = some (.int .i64 x5) := ⟨HRSh.out.bk.drew, HCXh.out⟩
                refine tT (i := 0) (v := .pointer (some ⟨g10, 1, none⟩)) rfl (by kernel_rfl) (by kernel_rfl) (fun W hW => exec_field (off := 0) (d := 1) rfl rfl (by kernel_rfl)) hS0 ?_
                simp only [zz]
                refine tT (i := 1) (v := .slice B k dk) rfl (by kernel_rfl) (by kernel_rfl) (fun W hW => exec_load1 rfl rfl (by kernel_rfl) (hW.1.cell 1)) hS0 ?_
                simp only [zz]
                refine tT (i := 2) (v := .slice (some ⟨gl, 0, none⟩) L.length cl) rfl (by kernel_rfl) (by kernel_rfl) (fun W hW => exec_move rfl rfl) hS0 ?_
                simp only [zz]
                refine tT (i := 3) (v := .int .i64 (j : Int)) rfl (by kernel_rfl) (by kernel_rfl) (fun W hW => exec_move rfl rfl) hS0 ?_
                simp only [zz]
                refine tT (i := 4) (v := .pointer (some ⟨gl, 0 + j * 1, none⟩)) rfl (by kernel_rfl) (by kernel_rfl) (fun W hW => gx_iaddr (i := j) (sz := 1) rfl rfl rfl Tryz.underlying63 size_int1 HLT.out (by have := HLN.out; omega)) hS0 ?_
                simp only [zz]
                refine tT (i := 5) (v := .int .i64 x5) rfl (by kernel_rfl) (by kernel_rfl) (fun W hW => exec_load1 rfl rfl (by kernel_rfl) hW.2) hS0 ?_
                simp only [zz]
                refine tT (i := 6) (v := strV t5) rfl (by kernel_rfl) (by kernel_rfl) (fun W hW => exec_move rfl rfl) hS0 ?_
                simp only [zz]
                refine tT (i := 7) (v := .agg (fldA (x5, t5))) rfl (by kernel_rfl) (by kernel_rfl) (fun W hW => gx_build2 rfl rfl rfl (build_fldM x5 t5 W)) hS0 ?_
                simp only [zz]
                refine till_step (i := 8) (by kernel_rfl) rfl rfl ?_
                intro K1 HK1
                refine wp_run (bx_slice1 rfl rfl (build_f1 (x5, t5) _)) ?_
                have ha7 := (Turn.refl nowhere wh.drew).alloc (.cells (fldA (x5, t5)) 40)
                refine HK1.out _ _ ⟨fun _ => ⟨hS0.1.turn ha7 (fun e => e), (ha7.cell (World.block_lt_of_cell? _ _ hS0.2) (fun e => e)).trans hS0.2⟩, ?_⟩
                clear HK1 ha7
                try simp only [zz]
                refine till_step (i := 9) (by kernel_rfl) rfl rfl ?_
                intro K1 HK1
                refine wp_run (exec_append rfl rfl rfl HRN5.out) ?_
                have hS8 : Blk w5x g10 24 #[.int .i64 (ty : Int), .slice B k dk] ∧ w5x.cell? ⟨gl, 0 + j * 1, none⟩ = some (.int .i64 x5) := ⟨HB5x.out, (HTN5.out.cell (World.block_lt_of_cell? _ _ hS0.2) (fun e => by
                 have e : wq.heap.size ≤ gl := e
                 have := HCW.out
                 omega)).trans hS0.2⟩
                refine HK1.out _ _ ⟨fun _ => hS8, ?_⟩
                clear HK1 hS0
                try simp only [zz]
                refine tT (i := 10) (v := .pointer (some ⟨g10, 1, none⟩)) rfl (by kernel_rfl) (by kernel_rfl) (fun W hW => exec_field (off := 0) (d := 1) rfl rfl (by kernel_rfl)) hS8 ?_
                simp only [zz]
                clear hS8
                refine till_step (i := 11) (by kernel_rfl) rfl rfl ?_
                intro K1 HK1
                refine wp_storeF (v := .slice B5 (k + 1) d5) 22 (.tmp 205) (.tmp 204) rfl HB5x.out rfl rfl (show 1 < 2 from by decide) rfl rfl size_sl ?_
                intro hbz huz
                have HS5z := zH (HA5.out _ hbz huz)
                have HR5z := zH (((HOX5.out.still ((Turn.refl nowhere wh).drew)).add (RS.drew HRSh.out).ro (x5, t5) HGR5.out).store HB5x.out huz)
                refine HK1.out _ _ ⟨fun e => absurd e (by decide), ?_⟩
                clear HK1 hbz huz
                generalize w5x.setCell ⟨g10, 1, none⟩ (.slice B5 (k + 1) d5) = wz5 at *
                try simp only [zz]
                refine till_done rfl ?_
                refine NoPanic.normal ?_
                go_upto_region 37 with fail
                refine wp_region_lit ?_
                refine wM (.int .i64 (j : Int)) ?_
                simp only [zz]
                refine wR (v := .int .i64 ((j + 1 : Nat) : Int)) rfl (ix_add rfl rfl rfl (by omega) (by have := HLN.out; omega)) ?_
                simp only [zz]
                refine wA (.int .i64 ((j + 1 : Nat) : Int)) ?_
                simp only [zz]
                go_wp2_with fail
                go_roundg (gk - 1)
                case measure => have := HJG.out; have := HLT.out; omega
                case rel => exact ⟨j + 1, acc ++ [(x5, t5)], r5, A5, n5, c5, B5, k + 1, d5, by have := HJG.out; have := HLT.out; omega, by go_num, rfl, HR5z.out, HC5.out, HZ5.out, HN5.out, HF2.out, by have := HKJ.out; omega, HS5z.out⟩
              ·have HU := zH (show unsaid d x5 = [] from by unfold unsaid; rw [if_neg (fun h => h3 h.1)])
               have H33 := zH h3
               clear h3
               refine wR (v := .bool false) rfl (ix_eql rfl rfl rfl (decide_eq_false (by have := H33.out; omega))) ?_
               simp only [zz]
               have HF2 := zH (show takeFs d L r0 = fsQ (acc ++ [(x5, t5)]) (takeFs d (L.drop (j + 1)) r5) from by
                have h := HFN.out
                rw [HU.out, List.nil_append] at h
                exact h)
               obtain ⟨B5, d5, w5x, hrun, hbk, htn, hgr, hadd⟩ := RS.add2 (RS.drew HRSh.out) HXW.out.lt (x5, t5) (by have := HKJ.out; have := HLN.out; have := HLT.out; omega)
               have HRN5 := zH hrun
               have HB5x := zH hbk
               have HTN5 := zH htn
               have HGR5 := zH hgr
               have HA5 := zH hadd
               clear hrun hbk htn hgr hadd
               go_upto_region 45 with fail
               refine wp_region_till (fun W => Blk W g10 24 #[.int .i64 (ty : Int), .slice B k dk] ∧ W.cell? ⟨gl, 0 + j * 1, none⟩ = some (.int .i64 x5)) 11 (by kernel_rfl) ?_
               have hS0 : Blk wh.drew g10 24 #[.int .i64 (ty : Int), .slice B k dk] ∧ wh.drew.cell? ⟨gl, 0 + j * 1, none⟩ = some (.int .i64 x5) := ⟨HRSh.out.bk.drew, HCXh.out⟩
               refine tT (i := 0) (v := .pointer (some ⟨g10, 1, none⟩)) rfl (by kernel_rfl) (by kernel_rfl) (fun W hW => exec_field (off := 0) (d := 1) rfl rfl (by kernel_rfl)) hS0 ?_
               simp only [zz]
               refine tT (i := 1) (v := .slice B k dk) rfl (by kernel_rfl) (by kernel_rfl) (fun W hW => exec_load1 rfl rfl (by kernel_rfl) (hW.1.cell 1)) hS0 ?_
               simp only [zz]
               refine tT (i := 2) (v := .slice (some ⟨gl, 0, none⟩) L.length cl) rfl (by kernel_rfl) (by kernel_rfl) (fun W hW => exec_move rfl rfl) hS0 ?_
               simp only [zz]
               refine tT (i := 3) (v := .int .i64 (j : Int)) rfl (by kernel_rfl) (by kernel_rfl) (fun W hW => exec_move rfl rfl) hS0 ?_
               simp only [zz]
               refine tT (i := 4) (v := .pointer (some ⟨gl, 0 + j * 1, none⟩)) rfl (by kernel_rfl) (by kernel_rfl) (fun W hW => gx_iaddr (i := j) (sz := 1) rfl rfl rfl Tryz.underlying63 size_int1 HLT.out (by have := HLN.out; omega)) hS0 ?_
               simp only [zz]
               refine tT (i := 5) (v := .int .i64 x5) rfl (by kernel_rfl) (by kernel_rfl) (fun W hW => exec_load1 rfl rfl (by kernel_rfl) hW.2) hS0 ?_
               simp only [zz]
               refine tT (i := 6) (v := strV t5) rfl (by kernel_rfl) (by kernel_rfl) (fun W hW => exec_move rfl rfl) hS0 ?_
               simp only [zz]
               refine tT (i := 7) (v := .agg (fldA (x5, t5))) rfl (by kernel_rfl) (by kernel_rfl) (fun W hW => gx_build2 rfl rfl rfl (build_fldM x5 t5 W)) hS0 ?_
               simp only [zz]
               refine till_step (i := 8) (by kernel_rfl) rfl rfl ?_
               intro K1 HK1
               refine wp_run (bx_slice1 rfl rfl (build_f1 (x5, t5) _)) ?_
               have ha7 := (Turn.refl nowhere wh.drew).alloc (.cells (fldA (x5, t5)) 40)
               refine HK1.out _ _ ⟨fun _ => ⟨hS0.1.turn ha7 (fun e => e), (ha7.cell (World.block_lt_of_cell? _ _ hS0.2) (fun e => e)).trans hS0.2⟩, ?_⟩
               clear HK1 ha7
               try simp only [zz]
               refine till_step (i := 9) (by kernel_rfl) rfl rfl ?_
               intro K1 HK1
               refine wp_run (exec_append rfl rfl rfl HRN5.out) ?_
               have hS8 : Blk w5x g10 24 #[.int .i64 (ty : Int), .slice B k dk] ∧ w5x.cell? ⟨gl, 0 + j * 1, none⟩ = some (.int .i64 x5) := ⟨HB5x.out, (HTN5.out.cell (World.block_lt_of_cell? _ _ hS0.2) (fun e => by
                have e : wq.heap.size ≤ gl := e
                have := HCW.out
                omega)).trans hS0.2⟩
               refine HK1.out _ _ ⟨fun _ => hS8, ?_⟩
               clear HK1 hS0
               try simp only [zz]
               refine tT (i := 10) (v := .pointer (some ⟨g10, 1, none⟩)) rfl (by kernel_rfl) (by kernel_rfl) (fun W hW => exec_field (off := 0) (d := 1) rfl rfl (by kernel_rfl)) hS8 ?_
               simp only [zz]
               clear hS8
               refine till_step (i := 11) (by kernel_rfl) rfl rfl ?_
               intro K1 HK1
               refine wp_storeF (v := .slice B5 (k + 1) d5) 22 (.tmp 205) (.tmp 204) rfl HB5x.out rfl rfl (show 1 < 2 from by decide) rfl rfl size_sl ?_
               intro hbz huz
               have HS5z := zH (HA5.out _ hbz huz)
               have HR5z := zH (((HOX5.out.still ((Turn.refl nowhere wh).drew)).add (RS.drew HRSh.out).ro (x5, t5) HGR5.out).store HB5x.out huz)
               refine HK1.out _ _ ⟨fun e => absurd e (by decide), ?_⟩
               clear HK1 hbz huz
               generalize w5x.setCell ⟨g10, 1, none⟩ (.slice B5 (k + 1) d5) = wz5 at *
               try simp only [zz]
               refine till_done rfl ?_
               refine NoPanic.normal ?_
               go_upto_region 37 with fail
               refine wp_region_lit ?_
               refine wM (.int .i64 (j : Int)) ?_
               simp only [zz]
               refine wR (v := .int .i64 ((j + 1 : Nat) : Int)) rfl (ix_add rfl rfl rfl (by omega) (by have := HLN.out; omega)) ?_
               simp only [zz]
               refine wA (.int .i64 ((j + 1 : Nat) : Int)) ?_
               simp only [zz]
               go_wp2_with fail
               go_roundg (gk - 1)
               case measure => have := HJG.out; have := HLT.out; omega
               case rel => exact ⟨j + 1, acc ++ [(x5, t5)], r5, A5, n5, c5, B5, k + 1, d5, by have := HJG.out; have := HLT.out; omega, by go_num, rfl, HR5z.out, HC5.out, HZ5.out, HN5.out, HF2.out, by have := HKJ.out; omega, HS5z.out⟩
           ·refine wR (v := .bool false) rfl (ix_lss rfl rfl rfl (decide_eq_false (by omega))) ?_
            simp only [zz]
            have HEND := zH (dec_end HD.out HTP.out HMP.out HAF.out (fs_end (by omega) HFS.out))
            clear hlt
            go_upto_region 46 with fail
            refine wp_region_lit ?_
            refine wM (.slice AR nr cr) ?_
            simp only [zz]
            refine wR (v := .int .i64 (nr : Int)) rfl (gx_len rfl rfl Tryz.underlying26) ?_
            simp only [zz]
            by_cases hn0 : 0 < nr
            ·refine wR (v := .bool true) rfl (ix_gtr rfl rfl rfl (decide_eq_true (by omega))) ?_
             simp only [zz]
             have HE := zH (HEND.out.trans (if_neg (fun h => by
              have := HRA.out.1.1
              rw [h] at this
              simp at this
              omega)))
             clear hn0
             go_upto_region 47 with fail
             refine wp_region_lit ?_
             refine wR (v := .agg #[.int .i64 0, .slice none 0 0]) rfl (gx_loads rfl rfl (blk_range H6.out) Tryz.underlying24 rfl (by rw [size_msg]; rfl)) ?_
             simp only [zz]
             refine wpList_store_row rfl 24 (.tmp 4) (.tmp 209) rfl #[.int .i64 0, .slice none 0 0] H4.out rfl rfl rfl (by rw [size_msg]; rfl) (msgA_one _ _ _ _) ?_
             intro wz hbz huz
             have HBZ := zH hbz
             have HUZ := zH (above HTV.out HG4.out huz)
             clear hbz huz
             try simp only [zz]
             refine wA (.int .i64 54) ?_
             simp only [zz]
             go_wp2_with fail
             refine bodyPost_ret (v := .tuple #[.agg #[.int .i64 0, .slice none 0 0], .int .i64 54]) (ret_cell2 rfl _ _ g4 _ _ _ rfl rfl HBZ.out Tryz.underlying24 rfl (by rw [size_msg]; rfl)) rfl ?_
             rw [HE.out]
             exact ⟨none, 0, 0, rfl, fl_nil _, (fun b o t e => by cases e), HUZ.out⟩
            ·refine wR (v := .bool false) rfl (ix_gtr rfl rfl rfl (decide_eq_false (by omega))) ?_
             simp only [zz]
             have HE := zH (HEND.out.trans (if_pos (List.eq_nil_of_length_eq_zero (by have := HRA.out.1.1; omega))))
             clear hn0
             go_upto_region 48 with fail
             refine wp_region_lit ?_
             refine wR (v := .agg #[.int .i64 (ty : Int), .slice B k dk]) rfl (gx_loads rfl rfl (blk_range HRS.out.bk) Tryz.underlying24 rfl (by rw [size_msg]; rfl)) ?_
             simp only [zz]
             refine wpList_store_row rfl 24 (.tmp 4) (.tmp 210) rfl #[.int .i64 (ty : Int), .slice B k dk] H4.out rfl rfl rfl (by rw [size_msg]; rfl) (msgA_one _ _ _ _) ?_
             intro wz hbz huz
             have HBZ := zH hbz
             have HUZ := zH (above HTV.out HG4.out huz)
             have HFZ := zH ((HRS.out.ro.turn huz (fun q hq e => HRS.out.ro.ne H4.out (by decide) q hq e)).fl (by have := HRS.out.ln; have := HKJ.out; have := HLN.out; have := HJG.out; omega))
             have HGE := zH (fun (q : Nat) hq => (HRS.out.ro.lt q hq).1)
             clear hbz huz
             try simp only [zz]
             refine wA (.int .i64 0) ?_
             simp only [zz]
             go_wp2_with fail
             refine bodyPost_ret (v := .tuple #[.agg #[.int .i64 (ty : Int), .slice B k dk], .int .i64 0]) (ret_cell2 rfl _ _ g4 _ _ _ rfl rfl HBZ.out Tryz.underlying24 rfl (by rw [size_msg]; rfl)) rfl ?_
             rw [HE.out]
             exact ⟨B, k, dk, rfl, HFZ.out.1, (fun b o t e => by
              have h1 := HGE.out b (by rw [e]; rfl)
              have := HTW.out.size
              omega), HUZ.out⟩
       ·have HE := zH (dec_type HD.out (ty_no HTK.out (show mtype d [x0, x1, x2, x3] = none from by rw [HMT.out, if_neg (fun h => hsm h.2)])))
        have HSM := zH hsm
        clear hsm
        refine wR (v := .bool true) (by go_simp) (sneqT (l := [x0, x1, x2, x3]) (m := ver d ++ dig3 ty) rfl rfl rfl HSM.out) ?_
        simp only [zz]
        refine wR (v := .bool true) (by go_simp) (ix_pickF rfl rfl rfl) ?_
        simp only [zz]
        go_upto_region 9 with fail
        refine wp_region_lit ?_
        refine wR (v := .agg #[.int .i64 0, .slice none 0 0]) rfl (gx_loads rfl rfl (blk_range (HB6.out.turn ((((HT2.out.next HT3.out).next HT5.out).next HT6.out).next HT7.out) (fun e => e))) Tryz.underlying24 rfl (by rw [size_msg]; rfl)) ?_
        simp only [zz]
        refine wpList_store_row rfl 24 (.tmp 4) (.tmp 76) rfl #[.int .i64 0, .slice none 0 0] (HB4.out.turn (((((HT1.out.next HT2.out).next HT3.out).next HT5.out).next HT6.out).next HT7.out) (fun e => e)) rfl rfl rfl (by rw [size_msg]; rfl) (msgA_one _ _ _ _) ?_
        intro wz hbz huz
        have HBZ := zH hbz
        have HUZ := zH (above ((((((HT0.out.next HT1.out).next HT2.out).next HT3.out).next HT5.out).next HT6.out).next HT7.out) HG4.out huz)
        clear hbz huz
        try simp only [zz]
        refine wA (.int .i64 51) ?_
        simp only [zz]
        go_wp2_with fail
        refine bodyPost_ret (v := .tuple #[.agg #[.int .i64 0, .slice none 0 0], .int .i64 51]) (ret_cell2 rfl _ _ g4 _ _ _ rfl rfl HBZ.out Tryz.underlying24 rfl (by rw [size_msg]; rfl)) rfl ?_
        rw [HE.out]
        exact ⟨none, 0, 0, rfl, fl_nil _, (fun b o t e => by cases e), HUZ.out⟩
end Go.Proofs.YticofobhkmabiaaGreatDoor
