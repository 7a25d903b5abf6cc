/-
  Texts in one file. Conditions: the tables and the errors read as laid.
-/
import Derived.Test.YtkagijifkpoplaaGreatDoorJT5
import Derived.Test.YtkagijifkpoplaaGreatDoorJT1
import Derived.Test.YtkagijifkpoplaaGreatDoorJT0
set_option linter.unusedVariables false
set_option linter.unusedSimpArgs false
set_option maxRecDepth 40000
set_option maxHeartbeats 20000000
namespace Go.Proofs.YtkagijifkpoplaaGreatDoor
open Go.RowKit
open Sh (Wd B8 H8)
set_option maxRecDepth 20000
theorem cell_still {w w' : World} {p : Addr} {v : Value} (h : w.cell? p = some v) (ht : Turn nowhere w w') : w'.cell? p = some v := (ht.cell (World.block_lt_of_cell? _ _ h) (fun e => e)).trans h
def V8 (W : World) (g : Nat) (s : H8) : Prop := ∀ i, i < 8 → W.cell? ⟨g, i, none⟩ = some (.int .u32 ((s.l.getD i 0).toNat : Int))
theorem V8.still {w w' : World} {g : Nat} {s : H8} (h : V8 w g s) (ht : Turn nowhere w w') : V8 w' g s := fun i hi => cell_still (h i hi) ht
theorem V8.rws {W : World} {g : Nat} {s : H8} (h : V8 W g s) : Rws W 1 (some ⟨g, 0, none⟩) 8 (rW s.l) := by
 refine ⟨rfl, fun r hr => (rW_fit s.l r hr).1, by decide, fun _ => ⟨g, 0, rfl, fun i r hr j u hu => ?_⟩⟩
 have hi : i < s.l.length := by
  have := (List.getElem?_eq_some_iff.1 hr).1
  rwa [rW_len] at this
 rw [rW_at s.l hi] at hr
 obtain rfl := Option.some.inj hr
 have hj : j = 0 := by
  have := (List.getElem?_eq_some_iff.1 hu).1
  simp [w1] at this
  exact this
 subst hj
 have hu' : u = .int .u32 ((s.l.getD i 0).toNat : Int) := by simpa [w1] using hu.symm
 rw [hu', Nat.mul_one, Nat.add_zero, Nat.zero_add]
 exact h i hi
theorem orw_v8 {w : World} {B g c : Nat} {s : H8} (h : Orw w B 93 1 (.slice (some ⟨g, 0, none⟩) 8 c) (rW s.l)) : V8 w g s := fun i hi => orw_w h (show i < s.l.length from hi)
def VN (W : World) (g : Nat) (l : List Wd) : Prop := ∀ i, i < l.length → W.cell? ⟨g, i, none⟩ = some (.int .u32 ((l.getD i 0).toNat : Int))
theorem VN.still {w w' : World} {g : Nat} {l : List Wd} (h : VN w g l) (ht : Turn nowhere w w') : VN w' g l := fun i hi => cell_still (h i hi) ht
theorem orw_vn {w : World} {B g n c : Nat} {l : List Wd} (h : Orw w B 93 1 (.slice (some ⟨g, 0, none⟩) n c) (rW l)) : VN w g l := fun i hi => orw_w h hi
theorem orw_new (w : World) (l : List Wd) (n : Nat) (hn : l.length = n) (hm : n ≤ 1000) : Orw (w.alloc (.cells (wds l) 93)) w.heap.size 93 1 (.slice (some ⟨w.heap.size, 0, none⟩) n n) (rW l) := by
 have hfl : (rW l).flatten = (wds l).toList := by
  subst hn
  clear hm
  induction l with
  | nil => rfl
  | cons x l ih => rw [rW, List.map_cons, List.flatten_cons, ← rW, ih]; rfl
 refine ⟨rW_fit l, ?_⟩
 rw [rW_len, hn, hfl]
 have hsz : (wds l).size = n := by rw [wds_size, hn]
 refine ⟨by simp [hsz], .inr ⟨w.heap.size, n, wds l, rfl, Nat.le_refl _, heap_alloc_new w _, Nat.le_refl _, by unfold maxLen; omega, by simp [hsz], ?_⟩⟩
 rw [List.take_of_length_le (by rw [Array.length_toList, hsz]; omega)]
theorem build_w0 (W : World) : (Instr.buildSlice 137 0 #[]).run Tryz.prog W = .ok (.slice (some ⟨W.heap.size, 0, none⟩) 0 0) (W.alloc (.cells #[] 93)) := by kernel_rfl
theorem build_w8 (s : H8) (W : World) : (Instr.buildSlice 137 8 #[(0, .int .u32 (s.a.toNat : Int)), (1, .int .u32 (s.b.toNat : Int)), (2, .int .u32 (s.c.toNat : Int)), (3, .int .u32 (s.d.toNat : Int)), (4, .int .u32 (s.e.toNat : Int)), (5, .int .u32 (s.f.toNat : Int)), (6, .int .u32 (s.g.toNat : Int)), (7, .int .u32 (s.h.toNat : Int))]).run Tryz.prog W = .ok (.slice (some ⟨W.heap.size, 0, none⟩) 8 8) (W.alloc (.cells (wds s.l) 93)) := by kernel_rfl
theorem add8_get (s z : H8) {i : Nat} (h : i < 8) : (Sh.add8 s z).l.getD i 0 = s.l.getD i 0 + z.l.getD i 0 := by
 match i, h with
 | 0, _ | 1, _ | 2, _ | 3, _ | 4, _ | 5, _ | 6, _ | 7, _ => rfl
theorem take_next (l : List Wd) {i : Nat} (h : i < l.length) : l.take (i + 1) = l.take i ++ [l.getD i 0] := by
 rw [List.take_succ_eq_append_getElem h, List.getD_eq_getElem?_getD, List.getElem?_eq_getElem h]
 rfl
theorem bx_slice8 {P : Program} {a : Act} {o : Oper} {t : TypeId} {x0 x1 x2 x3 x4 x5 x6 x7 : Operand} {u0 u1 u2 u3 u4 u5 u6 u7 r : Value} {W W' : World} (ho : o.op = .buildSlice t 8 #[(0, x0), (1, x1), (2, x2), (3, x3), (4, x4), (5, x5), (6, x6), (7, x7)]) (h0 : a.eval x0 = u0) (h1 : a.eval x1 = u1) (h2 : a.eval x2 = u2) (h3 : a.eval x3 = u3) (h4 : a.eval x4 = u4) (h5 : a.eval x5 = u5) (h6 : a.eval x6 = u6) (h7 : a.eval x7 = u7)
 (h : (Instr.buildSlice t 8 #[(0, u0), (1, u1), (2, u2), (3, u3), (4, u4), (5, u5), (6, u6), (7, u7)]).run P W = .ok r W') : (execOp a.eval o).run P W = .ok (.value r) W' := by
 unfold execOp
 simp only [ho, List.map_toArray, List.map_cons, List.map_nil, h0, h1, h2, h3, h4, h5, h6, h7, h, Sem.run_bind, Sem.run_pure, Result.andThen_ok]
theorem orw_zero (w : World) {B : Nat} (hB : B ≤ w.heap.size) : Orw (w.alloc (.cells #[] 93)) B 93 1 (.slice (some ⟨w.heap.size, 0, none⟩) 0 0) (rW []) :=
 (show Orw (w.alloc (.cells #[] 93)) w.heap.size 93 1 (.slice (some ⟨w.heap.size, 0, none⟩) 0 0) [] from ⟨Fit.nil 1, World.ownsRow_made w #[] 0 (Nat.le_refl _) (by unfold maxLen; omega) (by simp)⟩).less hB
theorem piece_walk (s : H8) (p : B8) (w : World) (gh ch b off c2 : Nat) (hh : V8 w gh s) (hp : Bs w (some ⟨b, off, none⟩) 64 p) :
 Calls Tryz.prog 80 #[.slice (some ⟨gh, 0, none⟩) 8 ch, .slice (some ⟨b, off, none⟩) 64 c2] w fun e w' => ∃ g c, e = .returned (.slice (some ⟨g, 0, none⟩) 8 c) ∧ Orw w' w.heap.size 93 1 (.slice (some ⟨g, 0, none⟩) 8 c) (rW (Sh.comp s p).l) ∧ Turn nowhere w w' := by
 have HH := zH hh
 have HP := zH hp
 obtain ⟨L, hL⟩ : ∃ L, Sh.wl p 64 = L := ⟨_, rfl⟩
 have HL := zH hL
 have HLL := zH (show L.length = 64 from by rw [← hL, Sh.wl_len])
 have HC := zH (show Sh.comp s p = Sh.add8 s (Sh.rs s L 64) from by rw [← hL]; rfl)
 generalize Sh.comp s p = cz at HC ⊢
 clear hh hp hL
 go_enter Tryz.func80, Tryz.ntmps80
 go_upto_region 0 with fail
 refine wp_region_lit ?_
 refine nA (.slice none 0 0) ?_;simp only [zz]
 have HO0 := zH (orw_zero w (Nat.le_refl _))
 have HT0 := zH ((Turn.refl nowhere w).alloc (.cells #[] 93))
 go_upto_region 1 with fail
 refine wp_region_lit ?_
 refine wR (v := .slice (some ⟨w.heap.size, 0, none⟩) 0 0) (w' := w.alloc (.cells #[] 93)) wn (bx_slice0 rfl (build_w0 w)) ?_
 simp only [zz];refine nA (.slice (some ⟨w.heap.size, 0, none⟩) 0 0) ?_;simp only [zz]
 go_upto_region 2 with fail
 refine wp_region_lit ?_
 refine nA (.int .i64 0) ?_;simp only [zz]
 go_wp2_with fail
 go_loopg [5, 6] 64 (fun gk v iv wr => ∃ i : Nat, iv = .int .i64 (i : Int) ∧ i + gk = 64 ∧ Orw wr w.heap.size 93 1 v (rW (Sh.wl p i)) ∧ Turn nowhere w wr)
 case atStart => exact ⟨0, rfl, rfl, HO0.out, HT0.out⟩
 clear HO0 HT0
 obtain ⟨i, rfl, hgk, hor, htr⟩ := hrel
 have yi : (i : Int) ≤ 64 := by omega
 have HGK := zH hgk
 have HOR := zH hor
 have HTR := zH htr
 obtain ⟨A5, c5, rfl, _⟩ := hor.form
 clear hgk hor htr
 rw [rW_len, Sh.wl_len] at HOR ⊢
 by_cases hlt : i < 64
 ·as_aux_lemma =>
   have HLT := zH hlt
   have y3 : (i : Int) < 64 := by omega
   clear hlt
   go_upto_region 3 with fail
   refine wp_region_lit ?_
   refine nM (.int .i64 (i : Int)) ?_;simp only [zz];refine nR (.bool true) (ix_lss rfl rfl rfl (decide_eq_true y3)) ?_;simp only [zz]
   by_cases h16 : i < 16
   ·as_aux_lemma =>
     have y16 : (i : Int) < 16 := by omega
     have H16 := zH h16
     have HX := zH (show Sh.nxt p (Sh.wl p i) i = Sh.wordAt p (4 * i) from if_pos h16)
     clear h16
     go_upto_region 5 with fail
     refine wp_region_lit ?_
     refine nM (.int .i64 (i : Int)) ?_;simp only [zz];refine nR (.bool true) (ix_lss rfl rfl rfl (decide_eq_true y16)) ?_;simp only [zz]
     go_upto_region 6 with fail
     refine wp_region_lit ?_
     refine nM (.slice A5 i c5) ?_;simp only [zz];refine nM (.slice (some ⟨b, off, none⟩) 64 c2) ?_;simp only [zz];refine nM (.int .i64 (i : Int)) ?_;simp only [zz];refine nR (.int .i64 ((4 * i : Nat) : Int)) (ix_mul rfl rfl rfl (by omega) ⟨by omega, by omega⟩) ?_;simp only [zz]
     refine wpList_op_g rfl fun K9 HK9 => ?_
     go_wp2_with fail
     refine (word_walk wr b off 64 c2 (4 * i) p (sh_still HP.out HTR.out) (by have := H16.out; omega) (by decide)).mono ?_
     rintro e w6 ⟨rfl, ht⟩
     refine HK9.out _ _ ?_
     clear HK9
     try simp only [zz]
     have HTw := zH ht
     have HT6 := zH (HTR.out.trans ht fun _ _ e => e)
     clear ht
     obtain ⟨A6, c6, w7, hap, ho7, ht7⟩ := orw_add elmW (ty := 137) (W1 := w) (HOR.out.still HTw.out) HT6.out (w1 (Sh.wordAt p (4 * i))) rfl (w1_one _) (by rw [rW_len, Sh.wl_len]; have := HLT.out; omega)
     rw [rW_len, Sh.wl_len] at hap ho7
     have HAP := zH hap
     have HO7 := zH (show Orw w7 w.heap.size 93 1 (.slice A6 (i + 1) c6) (rW (Sh.wl p (i + 1))) from by
      rw [Sh.wl, rW_snoc, HX.out]
      exact ho7)
     have HT7 := zH ht7
     clear hap ho7 ht7
     refine wR (v := .slice (some ⟨w6.heap.size, 0, none⟩) 1 1) (w' := w6.alloc (.cells (w1 (Sh.wordAt p (4 * i))).toArray 93)) wn (exec_buildSlice1 rfl rfl (build_one elmW (w1 (Sh.wordAt p (4 * i))) rfl (by decide) _ rfl w6)) ?_
     simp only [zz]
     refine wR (v := .slice A6 (i + 1) c6) (w' := w7) wn (exec_append rfl rfl rfl HAP.out) ?_
     simp only [zz];refine nA (.slice A6 (i + 1) c6) ?_;simp only [zz]
     go_upto_region 4 with fail
     refine wp_region_lit ?_
     refine nM (.int .i64 (i : Int)) ?_;simp only [zz];refine nR (.int .i64 ((i + 1 : Nat) : Int)) (ix_add rfl rfl rfl (by omega) (by omega)) ?_;simp only [zz];refine nA (.int .i64 ((i + 1 : Nat) : Int)) ?_;simp only [zz]
     go_wp2_with fail
     go_roundg (64 - (i + 1))
     case measure => have := HGK.out; have := HLT.out; omega
     case rel => exact ⟨i + 1, rfl, by have := HLT.out; omega, HO7.out, HT7.out⟩
   ·as_aux_lemma =>
     have y16 : 16 ≤ (i : Int) := by omega
     have H16 := zH (show 16 ≤ i from by omega)
     have HX0 := zH (nxt_hi p (Sh.wl p i) H16.out)
     clear h16
     obtain ⟨g5, c5', he5, _, _, _, _⟩ := orw_at0 HOR.out (by rw [rW_len, Sh.wl_len]; have := H16.out; omega)
     rw [rW_len, Sh.wl_len] at he5
     injection he5 with e1 e2 e3
     subst e1
     clear e2 e3
     have HVN := zH (show VN wr g5 (Sh.wl p i) from orw_vn HOR.out)
     have HWL := zH (Sh.wl_len p i)
     have HC2 := zH (HVN.out (i - 2) (by rw [HWL.out]; have := H16.out; omega))
     have HC7 := zH (HVN.out (i - 7) (by rw [HWL.out]; have := H16.out; omega))
     have HC15 := zH (HVN.out (i - 15) (by rw [HWL.out]; have := H16.out; omega))
     have HC16 := zH (HVN.out (i - 16) (by rw [HWL.out]; have := H16.out; omega))
     obtain ⟨x2, hx2⟩ : ∃ c, c = (Sh.wl p i).getD (i - 2) 0 := ⟨_, rfl⟩
     obtain ⟨x7, hx7⟩ : ∃ c, c = (Sh.wl p i).getD (i - 7) 0 := ⟨_, rfl⟩
     obtain ⟨x15, hx15⟩ : ∃ c, c = (Sh.wl p i).getD (i - 15) 0 := ⟨_, rfl⟩
     obtain ⟨x16, hx16⟩ : ∃ c, c = (Sh.wl p i).getD (i - 16) 0 := ⟨_, rfl⟩
     rw [← hx2] at HC2 HX0
     rw [← hx7] at HC7 HX0
     rw [← hx15] at HC15 HX0
     rw [← hx16] at HC16 HX0
     clear hx2 hx7 hx15 hx16 HVN HWL
     obtain ⟨xn, hxn⟩ : ∃ x, Sh.s1 x2 + x7 + Sh.s0 x15 + x16 = x := ⟨_, rfl⟩
     have HX := zH (show Sh.nxt p (Sh.wl p i) i = xn from HX0.out.trans hxn)
     have HXN := zH hxn
     clear hxn HX0
     go_upto_region 5 with fail
     refine wp_region_lit ?_
     refine nM (.int .i64 (i : Int)) ?_;simp only [zz];refine nR (.bool false) (ix_lss rfl rfl rfl (decide_eq_false (by omega))) ?_;simp only [zz]
     go_upto_region 7 with fail
     refine wp_region_lit ?_
     refine nM (.slice (some ⟨g5, 0, none⟩) i c5) ?_;simp only [zz];refine nM (.int .i64 (i : Int)) ?_;simp only [zz];refine nR (.int .i64 ((i - 2 : Nat) : Int)) (ix_sub rfl rfl rfl (by have := H16.out; omega) ⟨by omega, by omega⟩) ?_;simp only [zz];refine nR (.pointer (some ⟨g5, 0 + (i - 2) * 1, none⟩)) (gx_iaddr (i := i - 2) (sz := 1) rfl rfl rfl Tryz.underlying137 size_u32 (by have := H16.out; omega) rfl) ?_;simp only [zz];refine nR (.int .u32 ((x2).toNat : Int)) (exec_load1 rfl rfl (by kernel_rfl) (by rw [Nat.zero_add, Nat.mul_one]; exact HC2.out)) ?_;simp only [zz];refine nA (.int .u32 ((x2).toNat : Int)) ?_;simp only [zz]
     go_upto_region 8 with fail
     refine wp_region_lit ?_
     refine nM (.slice (some ⟨g5, 0, none⟩) i c5) ?_;simp only [zz];refine nM (.int .i64 (i : Int)) ?_;simp only [zz];refine nR (.int .i64 ((i - 15 : Nat) : Int)) (ix_sub rfl rfl rfl (by have := H16.out; omega) ⟨by omega, by omega⟩) ?_;simp only [zz];refine nR (.pointer (some ⟨g5, 0 + (i - 15) * 1, none⟩)) (gx_iaddr (i := i - 15) (sz := 1) rfl rfl rfl Tryz.underlying137 size_u32 (by have := H16.out; omega) rfl) ?_;simp only [zz];refine nR (.int .u32 ((x15).toNat : Int)) (exec_load1 rfl rfl (by kernel_rfl) (by rw [Nat.zero_add, Nat.mul_one]; exact HC15.out)) ?_;simp only [zz];refine nA (.int .u32 ((x15).toNat : Int)) ?_;simp only [zz]
     go_upto_region 9 with fail
     refine wp_region_till (fun W => W.cell? ⟨g5, i - 7, none⟩ = some (.int .u32 (x7.toNat : Int)) ∧ W.cell? ⟨g5, i - 16, none⟩ = some (.int .u32 (x16.toNat : Int))) 31 (by kernel_rfl) ?_
     have hS0 : (fun W => W.cell? ⟨g5, i - 7, none⟩ = some (.int .u32 (x7.toNat : Int)) ∧ W.cell? ⟨g5, i - 16, none⟩ = some (.int .u32 (x16.toNat : Int))) wr.drew := ⟨HC7.out, HC16.out⟩
     have HD := zH ((Turn.refl nowhere wr).drew)
     generalize wr.drew = wd at *
     refine tQ [31] 0 (.slice (some ⟨g5, 0, none⟩) i c5) rfl (fun W hW => exec_move rfl rfl) hS0 ?_;simp only [zz];refine tQ [2, 5, 8, 14, 23, 29, 30, 31] 1 (.int .u32 ((x2).toNat : Int)) rfl (fun W hW => exec_move rfl rfl) hS0 ?_;simp only [zz];refine tQ [4, 5, 8, 14, 23, 29, 30, 31] 3 (.int .u32 ((x2).toNat : Int)) rfl (fun W hW => exec_move rfl rfl) hS0 ?_;simp only [zz];refine tQ [7, 8, 14, 23, 29, 30, 31] 6 (.int .u32 ((x2).toNat : Int)) rfl (fun W hW => exec_move rfl rfl) hS0 ?_;simp only [zz];refine tQ [8, 14, 23, 29, 30, 31] 7 (.int .u32 (((x2) >>> 10).toNat : Int)) rfl (fun W hW => wd_shrc (s := 10) rfl rfl rfl (by decide)) hS0 ?_;simp only [zz];refine tQ [12, 13, 14, 23, 29, 30, 31] 9 (.slice (some ⟨g5, 0, none⟩) i c5) rfl (fun W hW => exec_move rfl rfl) hS0 ?_;simp only [zz];refine tQ [11, 12, 13, 14, 23, 29, 30, 31] 10 (.int .i64 (i : Int)) rfl (fun W hW => exec_move rfl rfl) hS0 ?_;simp only [zz];refine tQ [12, 13, 14, 23, 29, 30, 31] 11 (.int .i64 ((i - 7 : Nat) : Int)) rfl (fun W hW => ix_sub rfl rfl rfl (by have := H16.out; omega) ⟨by omega, by omega⟩) hS0 ?_;simp only [zz];refine tQ [13, 14, 23, 29, 30, 31] 12 (.pointer (some ⟨g5, 0 + (i - 7) * 1, none⟩)) rfl (fun W hW => gx_iaddr (i := i - 7) (sz := 1) rfl rfl rfl Tryz.underlying137 size_u32 (by have := H16.out; omega) rfl) hS0 ?_;simp only [zz];refine tQ [14, 23, 29, 30, 31] 13 (.int .u32 ((x7).toNat : Int)) rfl (fun W hW => exec_load1 rfl rfl (by kernel_rfl) (by rw [Nat.zero_add, Nat.mul_one]; exact hW.1)) hS0 ?_
     simp only [zz];refine tQ [16, 19, 22, 23, 29, 30, 31] 15 (.int .u32 ((x15).toNat : Int)) rfl (fun W hW => exec_move rfl rfl) hS0 ?_;simp only [zz];refine tQ [18, 19, 22, 23, 29, 30, 31] 17 (.int .u32 ((x15).toNat : Int)) rfl (fun W hW => exec_move rfl rfl) hS0 ?_;simp only [zz];refine tQ [21, 22, 23, 29, 30, 31] 20 (.int .u32 ((x15).toNat : Int)) rfl (fun W hW => exec_move rfl rfl) hS0 ?_;simp only [zz];refine tQ [22, 23, 29, 30, 31] 21 (.int .u32 (((x15) >>> 3).toNat : Int)) rfl (fun W hW => wd_shrc (s := 3) rfl rfl rfl (by decide)) hS0 ?_;simp only [zz];refine tQ [27, 28, 29, 30, 31] 24 (.slice (some ⟨g5, 0, none⟩) i c5) rfl (fun W hW => exec_move rfl rfl) hS0 ?_;simp only [zz];refine tQ [26, 27, 28, 29, 30, 31] 25 (.int .i64 (i : Int)) rfl (fun W hW => exec_move rfl rfl) hS0 ?_;simp only [zz];refine tQ [27, 28, 29, 30, 31] 26 (.int .i64 ((i - 16 : Nat) : Int)) rfl (fun W hW => ix_sub rfl rfl rfl (by have := H16.out; omega) ⟨by omega, by omega⟩) hS0 ?_;simp only [zz];refine tQ [28, 29, 30, 31] 27 (.pointer (some ⟨g5, 0 + (i - 16) * 1, none⟩)) rfl (fun W hW => gx_iaddr (i := i - 16) (sz := 1) rfl rfl rfl Tryz.underlying137 size_u32 (by have := H16.out; omega) rfl) hS0 ?_;simp only [zz];refine tQ [29, 30, 31] 28 (.int .u32 ((x16).toNat : Int)) rfl (fun W hW => exec_load1 rfl rfl (by kernel_rfl) (by rw [Nat.zero_add, Nat.mul_one]; exact hW.2)) hS0 ?_;simp only [zz]
     refine till_step (i := 2) (by kernel_rfl) rfl rfl ?_
     intro K1 HK1
     go_wp2_with fail
     refine (rrot_walk x2 17 _ (by decide) (by decide)).mono ?_
     rintro e c1 ⟨rfl, ht⟩
     have hS1 := (show (fun W : World => W.cell? ⟨g5, i - 7, none⟩ = some (.int .u32 (x7.toNat : Int)) ∧ W.cell? ⟨g5, i - 16, none⟩ = some (.int .u32 (x16.toNat : Int))) _ from ⟨cell_still hS0.1 ht, cell_still hS0.2 ht⟩)
     have HTc1 := zH (HD.out.trans ht fun _ _ e => e)
     refine HK1.out _ _ ⟨fun _ => hS1, ?_⟩
     clear HK1 ht hS0
     try simp only [zz]
     refine till_step (i := 4) (by kernel_rfl) rfl rfl ?_
     intro K1 HK1
     go_wp2_with fail
     refine (rrot_walk x2 19 _ (by decide) (by decide)).mono ?_
     rintro e c2 ⟨rfl, ht⟩
     have hS2 := (show (fun W : World => W.cell? ⟨g5, i - 7, none⟩ = some (.int .u32 (x7.toNat : Int)) ∧ W.cell? ⟨g5, i - 16, none⟩ = some (.int .u32 (x16.toNat : Int))) _ from ⟨cell_still hS1.1 ht, cell_still hS1.2 ht⟩)
     have HTc2 := zH (HTc1.out.trans ht fun _ _ e => e)
     refine HK1.out _ _ ⟨fun _ => hS2, ?_⟩
     clear HK1 ht hS1
     try simp only [zz]
     refine tQ [8, 14, 23, 29, 30, 31] 5 (.int .u32 (((Sh.rot x2 17) ^^^ (Sh.rot x2 19)).toNat : Int)) rfl (fun W hW => wd_xor rfl rfl rfl) hS2 ?_;simp only [zz];refine tQ [14, 23, 29, 30, 31] 8 (.int .u32 ((((Sh.rot x2 17) ^^^ (Sh.rot x2 19)) ^^^ ((x2) >>> 10)).toNat : Int)) rfl (fun W hW => wd_xor rfl rfl rfl) hS2 ?_;simp only [zz];refine tQ [23, 29, 30, 31] 14 (.int .u32 (((((Sh.rot x2 17) ^^^ (Sh.rot x2 19)) ^^^ ((x2) >>> 10)) + x7).toNat : Int)) rfl (fun W hW => wd_add rfl rfl rfl) hS2 ?_;simp only [zz]
     refine till_step (i := 16) (by kernel_rfl) rfl rfl ?_
     intro K1 HK1
     go_wp2_with fail
     refine (rrot_walk x15 7 _ (by decide) (by decide)).mono ?_
     rintro e c3 ⟨rfl, ht⟩
     have hS3 := (show (fun W : World => W.cell? ⟨g5, i - 7, none⟩ = some (.int .u32 (x7.toNat : Int)) ∧ W.cell? ⟨g5, i - 16, none⟩ = some (.int .u32 (x16.toNat : Int))) _ from ⟨cell_still hS2.1 ht, cell_still hS2.2 ht⟩)
     have HTc3 := zH (HTc2.out.trans ht fun _ _ e => e)
     refine HK1.out _ _ ⟨fun _ => hS3, ?_⟩
     clear HK1 ht hS2
     try simp only [zz]
     refine till_step (i := 18) (by kernel_rfl) rfl rfl ?_
     intro K1 HK1
     go_wp2_with fail
     refine (rrot_walk x15 18 _ (by decide) (by decide)).mono ?_
     rintro e c4 ⟨rfl, ht⟩
     have hS4 := (show (fun W : World => W.cell? ⟨g5, i - 7, none⟩ = some (.int .u32 (x7.toNat : Int)) ∧ W.cell? ⟨g5, i - 16, none⟩ = some (.int .u32 (x16.toNat : Int))) _ from ⟨cell_still hS3.1 ht, cell_still hS3.2 ht⟩)
     have HTc4 := zH (HTc3.out.trans ht fun _ _ e => e)
     refine HK1.out _ _ ⟨fun _ => hS4, ?_⟩
     clear HK1 ht hS3
     try simp only [zz]
     refine tQ [22, 23, 29, 30, 31] 19 (.int .u32 (((Sh.rot x15 7) ^^^ (Sh.rot x15 18)).toNat : Int)) rfl (fun W hW => wd_xor rfl rfl rfl) hS4 ?_;simp only [zz];refine tQ [23, 29, 30, 31] 22 (.int .u32 ((((Sh.rot x15 7) ^^^ (Sh.rot x15 18)) ^^^ ((x15) >>> 3)).toNat : Int)) rfl (fun W hW => wd_xor rfl rfl rfl) hS4 ?_;simp only [zz];refine tQ [29, 30, 31] 23 (.int .u32 ((((((Sh.rot x2 17) ^^^ (Sh.rot x2 19)) ^^^ ((x2) >>> 10)) + x7) + (((Sh.rot x15 7) ^^^ (Sh.rot x15 18)) ^^^ ((x15) >>> 3))).toNat : Int)) rfl (fun W hW => wd_add rfl rfl rfl) hS4 ?_;simp only [zz];refine tQ [30, 31] 29 (.int .u32 ((xn).toNat : Int)) rfl (fun W hW => (by rw [← HXN.out]; exact wd_add rfl rfl rfl)) hS4 ?_;simp only [zz]
     obtain ⟨wb, hwb⟩ : ∃ x, x = c4 := ⟨_, rfl⟩
     rw [← hwb] at HTc4 hS4 ⊢
     have HTb := HTc4
     have hSb := hS4
     clear hwb
     have HTwb := zH (HTR.out.trans HTb.out fun _ _ e => e)
     obtain ⟨A6, c6, w7, hap, ho7, ht7⟩ := orw_add elmW (ty := 137) (W1 := w) (HOR.out.still HTb.out) HTwb.out (w1 xn) rfl (w1_one _) (by rw [rW_len, Sh.wl_len]; have := HLT.out; omega)
     rw [rW_len, Sh.wl_len] at hap ho7
     have HAP := zH hap
     have HO7 := zH (show Orw w7 w.heap.size 93 1 (.slice A6 (i + 1) c6) (rW (Sh.wl p (i + 1))) from by
      rw [Sh.wl, rW_snoc, HX.out]
      exact ho7)
     have HT7 := zH ht7
     clear hap ho7 ht7
     refine till_step (i := 30) (by kernel_rfl) rfl rfl ?_
     intro K1 HK1
     refine wp_run (v := .slice (some ⟨wb.heap.size, 0, none⟩) 1 1) (w' := wb.alloc (.cells (w1 xn).toArray 93)) (exec_buildSlice1 rfl rfl (build_one elmW (w1 xn) rfl (by decide) _ rfl wb)) ?_
     have hta := (Turn.refl nowhere wb).alloc (.cells (w1 xn).toArray 93)
     refine HK1.out _ _ ⟨fun _ => ⟨cell_still hSb.1 hta, cell_still hSb.2 hta⟩, ?_⟩
     clear HK1 hta
     try simp only [zz]
     refine till_tail 31 rfl (by kernel_rfl) ?_
     clear hSb
     refine wR (v := .slice A6 (i + 1) c6) (w' := w7) wn (exec_append rfl rfl rfl HAP.out) ?_
     simp only [zz];refine nA (.slice A6 (i + 1) c6) ?_;simp only [zz]
     refine wpList_nil ?_
     refine NoPanic.normal ?_
     try simp only [zz]
     go_upto_region 4 with fail
     refine wp_region_lit ?_
     refine nM (.int .i64 (i : Int)) ?_;simp only [zz];refine nR (.int .i64 ((i + 1 : Nat) : Int)) (ix_add rfl rfl rfl (by omega) (by omega)) ?_;simp only [zz];refine nA (.int .i64 ((i + 1 : Nat) : Int)) ?_;simp only [zz]
     go_wp2_with fail
     go_roundg (64 - (i + 1))
     case measure => have := HGK.out; have := HLT.out; omega
     case rel => exact ⟨i + 1, rfl, by have := HLT.out; omega, HO7.out, HT7.out⟩
 ·as_aux_lemma =>
   obtain rfl : i = 64 := by omega
   clear hlt HGK yi
   rw [HL.out] at HOR
   obtain ⟨g5, c5', he5, _, _, hg5, _⟩ := orw_at0 HOR.out (by rw [rW_len, HLL.out]; decide)
   rw [rW_len, HLL.out] at he5
   injection he5 with e1 e2 e3
   subst e1
   clear e2 e3
   have HVL := zH (show VN wr g5 L from orw_vn HOR.out)
   clear HOR
   go_upto_region 3 with fail
   refine wp_region_lit ?_
   refine nM (.int .i64 ((64 : Nat) : Int)) ?_;simp only [zz];refine nR (.bool false) (ix_lss rfl rfl rfl (by decide)) ?_;simp only [zz]
   obtain ⟨A6, c6, w7, hap, ho7, ht7⟩ := copy_rws elmW (w := wr) (c := ch) (ty := 137) (HH.out.still HTR.out).rws (rW_fit s.l) (fun h => by cases h) (by decide)
   obtain ⟨g9, c9, he9, _, _, _, _⟩ := orw_at0 ho7 (by rw [rW_len, h8_len]; decide)
   injection he9 with e1 e2 e3
   subst e1
   clear e2 e3
   have HAP := zH hap
   have HO7 := zH (ho7.less HTR.out.size)
   have HT7 := zH (HTR.out.trans ht7 fun _ _ e => e)
   have HVL7 := zH (HVL.out.still ht7)
   clear hap ho7 ht7 HVL HTR
   go_upto_region 10 with fail
   refine wp_region_lit ?_
   refine wR (v := .slice (some ⟨wr.heap.size, 0, none⟩) 0 0) (w' := wr.alloc (.cells #[] 93)) wn (bx_slice0 rfl (build_w0 wr)) ?_
   simp only [zz];refine nM (.slice (some ⟨gh, 0, none⟩) 8 ch) ?_;simp only [zz]
   refine wR (v := .slice (some ⟨g9, 0, none⟩) 8 c6) (w' := w7) wn (exec_append rfl rfl rfl HAP.out) ?_
   simp only [zz];refine nA (.slice (some ⟨g9, 0, none⟩) 8 c6) ?_;simp only [zz]
   go_upto_region 11 with fail
   refine wp_region_lit ?_
   refine nA (.int .i64 0) ?_;simp only [zz]
   clear HAP
   go_wp2_with fail
   go_loopg [9, 10] 64 (fun gk v iv wq => ∃ t g c : Nat, iv = .int .i64 (t : Int) ∧ v = .slice (some ⟨g, 0, none⟩) 8 c ∧ t + gk = 64 ∧ Orw wq w.heap.size 93 1 (.slice (some ⟨g, 0, none⟩) 8 c) (rW (Sh.rs s L t).l) ∧ VN wq g5 L ∧ Turn nowhere w wq)
   case atStart => exact ⟨0, g9, c6, rfl, rfl, rfl, HO7.out, HVL7.out, HT7.out⟩
   clear HO7 HVL7 HT7
   obtain ⟨t, g, c, rfl, rfl, hgk, hor, hvl, htr⟩ := hrel
   have yt : (t : Int) ≤ 64 := by omega
   have HGK := zH hgk
   have HOR := zH hor
   have HVL := zH hvl
   have HTR := zH htr
   clear hgk hor hvl htr
   by_cases hlt : t < 64
   ·as_aux_lemma =>
     have HLT := zH hlt
     have y3 : (t : Int) < 64 := by omega
     clear hlt
     have HRS := zH (rs_succ s L t)
     obtain ⟨z2, hz2⟩ : ∃ z2, Sh.rs s L (t + 1) = z2 := ⟨_, rfl⟩
     rw [hz2] at HRS
     have HZ2 := zH hz2
     clear hz2
     generalize Sh.rs s L t = z at HRS HOR
     have HV := zH (orw_v8 HOR.out)
     obtain ⟨kk, hkk⟩ : ∃ kk, Sh.kt t = kk := ⟨_, rfl⟩
     have HKW := zH (fun w0 => const_walk t w0 HLT.out)
     rw [hkk] at HRS HKW
     obtain ⟨lt, hlt⟩ : ∃ lt, L.getD t 0 = lt := ⟨_, rfl⟩
     have HLV := zH (HVL.out t (by rw [HLL.out]; exact HLT.out))
     rw [hlt] at HRS HLV
     clear hkk hlt
     obtain ⟨T1, hT1⟩ : ∃ T, Sh.t1 z kk lt = T := ⟨_, rfl⟩
     obtain ⟨T2, hT2⟩ : ∃ T, Sh.t2 z = T := ⟨_, rfl⟩
     have HX := zH (show z2 = ⟨T1 + T2, z.a, z.b, z.c, z.d + T1, z.e, z.f, z.g⟩ from by rw [← hT1, ← hT2]; exact HRS.out)
     obtain ⟨Y, hY⟩ : ∃ Y, (z.e &&& z.f) ^^^ ((~~~ z.e) &&& z.g) = Y := ⟨_, rfl⟩
     have HY := zH hY
     obtain ⟨Y2, hY2⟩ : ∃ Y2, z.h + ((Sh.rot z.e 6 ^^^ Sh.rot z.e 11) ^^^ Sh.rot z.e 25) + Y = Y2 := ⟨_, rfl⟩
     have HY2 := zH hY2
     have HTY := zH (show Y2 + kk + lt = T1 from by rw [← hT1, ← hY2, ← hY]; rfl)
     have HT2e := zH hT2
     clear hT1 hT2 HRS hY hY2
     go_upto_region 12 with fail
     refine wp_region_lit ?_
     refine nM (.int .i64 (t : Int)) ?_;simp only [zz];refine nR (.bool true) (ix_lss rfl rfl rfl (decide_eq_true y3)) ?_;simp only [zz]
     go_upto_region 14 with fail
     refine wp_region_lit ?_
     refine nM (.slice (some ⟨g, 0, none⟩) 8 c) ?_;simp only [zz];refine nR (.pointer (some ⟨g, 0 + (0) * 1, none⟩)) (gx_iaddr (i := 0) (sz := 1) rfl rfl rfl Tryz.underlying137 size_u32 (by decide) rfl) ?_;simp only [zz];refine nR (.int .u32 ((z.a).toNat : Int)) (exec_load1 rfl rfl (by kernel_rfl) (by rw [Nat.zero_add, Nat.mul_one]; exact HV.out 0 (by decide))) ?_;simp only [zz];refine nA (.int .u32 ((z.a).toNat : Int)) ?_;simp only [zz]
     go_upto_region 15 with fail
     refine wp_region_lit ?_
     refine nM (.slice (some ⟨g, 0, none⟩) 8 c) ?_;simp only [zz];refine nR (.pointer (some ⟨g, 0 + (4) * 1, none⟩)) (gx_iaddr (i := 4) (sz := 1) rfl rfl rfl Tryz.underlying137 size_u32 (by decide) rfl) ?_;simp only [zz];refine nR (.int .u32 ((z.e).toNat : Int)) (exec_load1 rfl rfl (by kernel_rfl) (by rw [Nat.zero_add, Nat.mul_one]; exact HV.out 4 (by decide))) ?_;simp only [zz];refine nA (.int .u32 ((z.e).toNat : Int)) ?_;simp only [zz]
     go_upto_region 16 with fail
     refine wp_region_alw (fun W => V8 W g z ∧ W.cell? ⟨g5, t, none⟩ = some (.int .u32 (lt.toNat : Int))) (by kernel_rfl) ?_
     have hS0 : (fun W => V8 W g z ∧ W.cell? ⟨g5, t, none⟩ = some (.int .u32 (lt.toNat : Int))) wr.drew := ⟨HV.out.still (Turn.refl nowhere _).drew, HLV.out⟩
     have HD := zH ((Turn.refl nowhere wr).drew)
     generalize wr.drew = wd at *
     refine aM 0 (.slice (some ⟨g, 0, none⟩) 8 c) hS0 ?_;simp only [zz];refine aU 1 (.pointer (some ⟨g, 0 + (7) * 1, none⟩)) rfl (fun W hW => gx_iaddr (i := 7) (sz := 1) rfl rfl rfl Tryz.underlying137 size_u32 (by decide) rfl) hS0 ?_;simp only [zz];refine aU 2 (.int .u32 ((z.h).toNat : Int)) rfl (fun W hW => exec_load1 rfl rfl (by kernel_rfl) (by rw [Nat.zero_add, Nat.mul_one]; exact hW.1 7 (by decide))) hS0 ?_;simp only [zz];refine aM 3 (.int .u32 ((z.e).toNat : Int)) hS0 ?_;simp only [zz];refine aM 5 (.int .u32 ((z.e).toNat : Int)) hS0 ?_;simp only [zz];refine aM 8 (.int .u32 ((z.e).toNat : Int)) hS0 ?_;simp only [zz];refine aM 12 (.int .u32 ((z.e).toNat : Int)) hS0 ?_;simp only [zz];refine aM 13 (.slice (some ⟨g, 0, none⟩) 8 c) hS0 ?_;simp only [zz];refine aU 14 (.pointer (some ⟨g, 0 + (5) * 1, none⟩)) rfl (fun W hW => gx_iaddr (i := 5) (sz := 1) rfl rfl rfl Tryz.underlying137 size_u32 (by decide) rfl) hS0 ?_;simp only [zz];refine aU 15 (.int .u32 ((z.f).toNat : Int)) rfl (fun W hW => exec_load1 rfl rfl (by kernel_rfl) (by rw [Nat.zero_add, Nat.mul_one]; exact hW.1 5 (by decide))) hS0 ?_;simp only [zz];refine aU 16 (.int .u32 ((z.e &&& z.f).toNat : Int)) rfl (fun W hW => wd_and rfl rfl rfl) hS0 ?_;simp only [zz];refine aM 17 (.int .u32 ((z.e).toNat : Int)) hS0 ?_;simp only [zz];refine aU 18 (.int .u32 ((~~~ (z.e)).toNat : Int)) rfl (fun W hW => wd_not rfl rfl) hS0 ?_;simp only [zz];refine aM 19 (.slice (some ⟨g, 0, none⟩) 8 c) hS0 ?_;simp only [zz];refine aU 20 (.pointer (some ⟨g, 0 + (6) * 1, none⟩)) rfl (fun W hW => gx_iaddr (i := 6) (sz := 1) rfl rfl rfl Tryz.underlying137 size_u32 (by decide) rfl) hS0 ?_
     simp only [zz];refine aU 21 (.int .u32 ((z.g).toNat : Int)) rfl (fun W hW => exec_load1 rfl rfl (by kernel_rfl) (by rw [Nat.zero_add, Nat.mul_one]; exact hW.1 6 (by decide))) hS0 ?_;simp only [zz];refine aU 22 (.int .u32 (((~~~ (z.e)) &&& z.g).toNat : Int)) rfl (fun W hW => wd_and rfl rfl rfl) hS0 ?_;simp only [zz];refine aU 23 (.int .u32 ((Y).toNat : Int)) rfl (fun W hW => (by rw [← HY.out]; exact wd_xor rfl rfl rfl)) hS0 ?_;simp only [zz];refine aM 25 (.int .i64 (t : Int)) hS0 ?_;simp only [zz];refine aM 28 (.slice (some ⟨g5, 0, none⟩) 64 c5) hS0 ?_;simp only [zz];refine aM 29 (.int .i64 (t : Int)) hS0 ?_;simp only [zz];refine aU 30 (.pointer (some ⟨g5, 0 + (t) * 1, none⟩)) rfl (fun W hW => gx_iaddr (i := t) (sz := 1) rfl rfl rfl Tryz.underlying137 size_u32 HLT.out rfl) hS0 ?_;simp only [zz];refine aU 31 (.int .u32 ((lt).toNat : Int)) rfl (fun W hW => exec_load1 rfl rfl (by kernel_rfl) (by rw [Nat.zero_add, Nat.mul_one]; exact hW.2)) hS0 ?_;simp only [zz]
     refine alw_step (i := 4) (by kernel_rfl) rfl rfl ?_
     intro K1 HK1
     go_wp2_with fail
     refine (rrot_walk z.e 6 _ (by decide) (by decide)).mono ?_
     rintro e c5 ⟨rfl, ht⟩
     have hS5 := (show (fun W : World => V8 W g z ∧ W.cell? ⟨g5, t, none⟩ = some (.int .u32 (lt.toNat : Int))) _ from ⟨V8.still hS0.1 ht, cell_still hS0.2 ht⟩)
     have HTc5 := zH (HD.out.trans ht fun _ _ e => e)
     refine HK1.out _ _ ⟨hS5, ?_⟩
     clear HK1 ht hS0
     try simp only [zz]
     refine alw_step (i := 6) (by kernel_rfl) rfl rfl ?_
     intro K1 HK1
     go_wp2_with fail
     refine (rrot_walk z.e 11 _ (by decide) (by decide)).mono ?_
     rintro e c6 ⟨rfl, ht⟩
     have hS6 := (show (fun W : World => V8 W g z ∧ W.cell? ⟨g5, t, none⟩ = some (.int .u32 (lt.toNat : Int))) _ from ⟨V8.still hS5.1 ht, cell_still hS5.2 ht⟩)
     have HTc6 := zH (HTc5.out.trans ht fun _ _ e => e)
     refine HK1.out _ _ ⟨hS6, ?_⟩
     clear HK1 ht hS5
     try simp only [zz]
     refine aU 7 (.int .u32 (((Sh.rot z.e 6) ^^^ (Sh.rot z.e 11)).toNat : Int)) rfl (fun W hW => wd_xor rfl rfl rfl) hS6 ?_;simp only [zz]
     refine alw_step (i := 9) (by kernel_rfl) rfl rfl ?_
     intro K1 HK1
     go_wp2_with fail
     refine (rrot_walk z.e 25 _ (by decide) (by decide)).mono ?_
     rintro e c7 ⟨rfl, ht⟩
     have hS7 := (show (fun W : World => V8 W g z ∧ W.cell? ⟨g5, t, none⟩ = some (.int .u32 (lt.toNat : Int))) _ from ⟨V8.still hS6.1 ht, cell_still hS6.2 ht⟩)
     have HTc7 := zH (HTc6.out.trans ht fun _ _ e => e)
     refine HK1.out _ _ ⟨hS7, ?_⟩
     clear HK1 ht hS6
     try simp only [zz]
     refine aU 10 (.int .u32 ((((Sh.rot z.e 6) ^^^ (Sh.rot z.e 11)) ^^^ (Sh.rot z.e 25)).toNat : Int)) rfl (fun W hW => wd_xor rfl rfl rfl) hS7 ?_;simp only [zz];refine aU 11 (.int .u32 ((z.h + (((Sh.rot z.e 6) ^^^ (Sh.rot z.e 11)) ^^^ (Sh.rot z.e 25))).toNat : Int)) rfl (fun W hW => wd_add rfl rfl rfl) hS7 ?_;simp only [zz];refine aU 24 (.int .u32 ((Y2).toNat : Int)) rfl (fun W hW => (by rw [← HY2.out]; exact wd_add rfl rfl rfl)) hS7 ?_;simp only [zz]
     refine alw_step (i := 26) (by kernel_rfl) rfl rfl ?_
     intro K1 HK1
     go_wp2_with fail
     refine (HKW.out _).mono ?_
     rintro e c8 ⟨rfl, ht⟩
     have hS8 := (show (fun W : World => V8 W g z ∧ W.cell? ⟨g5, t, none⟩ = some (.int .u32 (lt.toNat : Int))) _ from ⟨V8.still hS7.1 ht, cell_still hS7.2 ht⟩)
     have HTc8 := zH (HTc7.out.trans ht fun _ _ e => e)
     refine HK1.out _ _ ⟨hS8, ?_⟩
     clear HK1 ht hS7
     try simp only [zz]
     refine aU 27 (.int .u32 ((Y2 + kk).toNat : Int)) rfl (fun W hW => wd_add rfl rfl rfl) hS8 ?_;simp only [zz];refine aU 32 (.int .u32 ((T1).toNat : Int)) rfl (fun W hW => (by rw [← HTY.out]; exact wd_add rfl rfl rfl)) hS8 ?_;simp only [zz];refine aU 33 (.int .u32 ((T1).toNat : Int)) rfl (fun W hW => gx_assign rfl rfl) hS8 ?_;simp only [zz]
     refine alw_done rfl ?_
     refine NoPanic.normal ?_
     try simp only [zz]
     go_upto_region 17 with fail
     refine wp_region_alw (fun W => V8 W g z) (by kernel_rfl) ?_
     have hS7 : (fun W => V8 W g z) c8.drew := hS8.1.still (Turn.refl nowhere _).drew
     have HD7 := zH (HTc8.out.drew)
     generalize c8.drew = wd7 at *
     clear hS8
     refine aM 0 (.int .u32 ((z.a).toNat : Int)) hS7 ?_;simp only [zz];refine aM 2 (.int .u32 ((z.a).toNat : Int)) hS7 ?_;simp only [zz];refine aM 5 (.int .u32 ((z.a).toNat : Int)) hS7 ?_;simp only [zz];refine aM 8 (.int .u32 ((z.a).toNat : Int)) hS7 ?_;simp only [zz];refine aM 9 (.slice (some ⟨g, 0, none⟩) 8 c) hS7 ?_;simp only [zz];refine aU 10 (.pointer (some ⟨g, 0 + (1) * 1, none⟩)) rfl (fun W hW => gx_iaddr (i := 1) (sz := 1) rfl rfl rfl Tryz.underlying137 size_u32 (by decide) rfl) hS7 ?_;simp only [zz];refine aU 11 (.int .u32 ((z.b).toNat : Int)) rfl (fun W hW => exec_load1 rfl rfl (by kernel_rfl) (by rw [Nat.zero_add, Nat.mul_one]; exact hW 1 (by decide))) hS7 ?_;simp only [zz];refine aU 12 (.int .u32 ((z.a &&& z.b).toNat : Int)) rfl (fun W hW => wd_and rfl rfl rfl) hS7 ?_;simp only [zz];refine aM 13 (.int .u32 ((z.a).toNat : Int)) hS7 ?_;simp only [zz];refine aM 14 (.slice (some ⟨g, 0, none⟩) 8 c) hS7 ?_;simp only [zz];refine aU 15 (.pointer (some ⟨g, 0 + (2) * 1, none⟩)) rfl (fun W hW => gx_iaddr (i := 2) (sz := 1) rfl rfl rfl Tryz.underlying137 size_u32 (by decide) rfl) hS7 ?_;simp only [zz];refine aU 16 (.int .u32 ((z.c).toNat : Int)) rfl (fun W hW => exec_load1 rfl rfl (by kernel_rfl) (by rw [Nat.zero_add, Nat.mul_one]; exact hW 2 (by decide))) hS7 ?_;simp only [zz];refine aU 17 (.int .u32 ((z.a &&& z.c).toNat : Int)) rfl (fun W hW => wd_and rfl rfl rfl) hS7 ?_;simp only [zz];refine aU 18 (.int .u32 (((z.a &&& z.b) ^^^ (z.a &&& z.c)).toNat : Int)) rfl (fun W hW => wd_xor rfl rfl rfl) hS7 ?_
     simp only [zz];refine aM 19 (.slice (some ⟨g, 0, none⟩) 8 c) hS7 ?_;simp only [zz];refine aU 20 (.pointer (some ⟨g, 0 + (1) * 1, none⟩)) rfl (fun W hW => gx_iaddr (i := 1) (sz := 1) rfl rfl rfl Tryz.underlying137 size_u32 (by decide) rfl) hS7 ?_;simp only [zz];refine aU 21 (.int .u32 ((z.b).toNat : Int)) rfl (fun W hW => exec_load1 rfl rfl (by kernel_rfl) (by rw [Nat.zero_add, Nat.mul_one]; exact hW 1 (by decide))) hS7 ?_;simp only [zz];refine aM 22 (.slice (some ⟨g, 0, none⟩) 8 c) hS7 ?_;simp only [zz];refine aU 23 (.pointer (some ⟨g, 0 + (2) * 1, none⟩)) rfl (fun W hW => gx_iaddr (i := 2) (sz := 1) rfl rfl rfl Tryz.underlying137 size_u32 (by decide) rfl) hS7 ?_;simp only [zz];refine aU 24 (.int .u32 ((z.c).toNat : Int)) rfl (fun W hW => exec_load1 rfl rfl (by kernel_rfl) (by rw [Nat.zero_add, Nat.mul_one]; exact hW 2 (by decide))) hS7 ?_;simp only [zz];refine aU 25 (.int .u32 ((z.b &&& z.c).toNat : Int)) rfl (fun W hW => wd_and rfl rfl rfl) hS7 ?_;simp only [zz];refine aU 26 (.int .u32 ((((z.a &&& z.b) ^^^ (z.a &&& z.c)) ^^^ (z.b &&& z.c)).toNat : Int)) rfl (fun W hW => wd_xor rfl rfl rfl) hS7 ?_;simp only [zz]
     refine alw_step (i := 1) (by kernel_rfl) rfl rfl ?_
     intro K1 HK1
     go_wp2_with fail
     refine (rrot_walk z.a 2 _ (by decide) (by decide)).mono ?_
     rintro e c9 ⟨rfl, ht⟩
     have hS9 := (show (fun W : World => V8 W g z) _ from V8.still hS7 ht)
     have HTc9 := zH (HD7.out.trans ht fun _ _ e => e)
     refine HK1.out _ _ ⟨hS9, ?_⟩
     clear HK1 ht hS7
     try simp only [zz]
     refine alw_step (i := 3) (by kernel_rfl) rfl rfl ?_
     intro K1 HK1
     go_wp2_with fail
     refine (rrot_walk z.a 13 _ (by decide) (by decide)).mono ?_
     rintro e c10 ⟨rfl, ht⟩
     have hS10 := (show (fun W : World => V8 W g z) _ from V8.still hS9 ht)
     have HTc10 := zH (HTc9.out.trans ht fun _ _ e => e)
     refine HK1.out _ _ ⟨hS10, ?_⟩
     clear HK1 ht hS9
     try simp only [zz]
     refine aU 4 (.int .u32 (((Sh.rot z.a 2) ^^^ (Sh.rot z.a 13)).toNat : Int)) rfl (fun W hW => wd_xor rfl rfl rfl) hS10 ?_;simp only [zz]
     refine alw_step (i := 6) (by kernel_rfl) rfl rfl ?_
     intro K1 HK1
     go_wp2_with fail
     refine (rrot_walk z.a 22 _ (by decide) (by decide)).mono ?_
     rintro e c11 ⟨rfl, ht⟩
     have hS11 := (show (fun W : World => V8 W g z) _ from V8.still hS10 ht)
     have HTc11 := zH (HTc10.out.trans ht fun _ _ e => e)
     refine HK1.out _ _ ⟨hS11, ?_⟩
     clear HK1 ht hS10
     try simp only [zz]
     refine aU 7 (.int .u32 ((((Sh.rot z.a 2) ^^^ (Sh.rot z.a 13)) ^^^ (Sh.rot z.a 22)).toNat : Int)) rfl (fun W hW => wd_xor rfl rfl rfl) hS11 ?_;simp only [zz];refine aU 27 (.int .u32 (((((Sh.rot z.a 2) ^^^ (Sh.rot z.a 13)) ^^^ (Sh.rot z.a 22)) + (((z.a &&& z.b) ^^^ (z.a &&& z.c)) ^^^ (z.b &&& z.c))).toNat : Int)) rfl (fun W hW => wd_add rfl rfl rfl) hS11 ?_;simp only [zz];refine aU 28 (.int .u32 ((Sh.t2 z).toNat : Int)) rfl (fun W hW => gx_assign rfl rfl) hS11 ?_;simp only [zz]
     refine alw_done rfl ?_
     refine NoPanic.normal ?_
     try simp only [zz]
     rw [HT2e.out]
     go_upto_region 18 with fail
     refine wp_region_alw (fun W => V8 W g z) (by kernel_rfl) ?_
     have hS8 : (fun W => V8 W g z) c11.drew := hS11.still (Turn.refl nowhere _).drew
     have HD8 := zH (HTc11.out.drew)
     generalize c11.drew = wd8 at *
     clear hS11
     refine aM 0 (.int .u32 ((T1).toNat : Int)) hS8 ?_;simp only [zz];refine aM 1 (.int .u32 ((T2).toNat : Int)) hS8 ?_;simp only [zz];refine aU 2 (.int .u32 ((T1 + T2).toNat : Int)) rfl (fun W hW => wd_add rfl rfl rfl) hS8 ?_;simp only [zz];refine aM 3 (.int .u32 ((z.a).toNat : Int)) hS8 ?_;simp only [zz];refine aM 4 (.slice (some ⟨g, 0, none⟩) 8 c) hS8 ?_;simp only [zz];refine aU 5 (.pointer (some ⟨g, 0 + (1) * 1, none⟩)) rfl (fun W hW => gx_iaddr (i := 1) (sz := 1) rfl rfl rfl Tryz.underlying137 size_u32 (by decide) rfl) hS8 ?_;simp only [zz];refine aU 6 (.int .u32 ((z.b).toNat : Int)) rfl (fun W hW => exec_load1 rfl rfl (by kernel_rfl) (by rw [Nat.zero_add, Nat.mul_one]; exact hW 1 (by decide))) hS8 ?_;simp only [zz];refine aM 7 (.slice (some ⟨g, 0, none⟩) 8 c) hS8 ?_;simp only [zz];refine aU 8 (.pointer (some ⟨g, 0 + (2) * 1, none⟩)) rfl (fun W hW => gx_iaddr (i := 2) (sz := 1) rfl rfl rfl Tryz.underlying137 size_u32 (by decide) rfl) hS8 ?_;simp only [zz];refine aU 9 (.int .u32 ((z.c).toNat : Int)) rfl (fun W hW => exec_load1 rfl rfl (by kernel_rfl) (by rw [Nat.zero_add, Nat.mul_one]; exact hW 2 (by decide))) hS8 ?_;simp only [zz];refine aM 10 (.slice (some ⟨g, 0, none⟩) 8 c) hS8 ?_;simp only [zz];refine aU 11 (.pointer (some ⟨g, 0 + (3) * 1, none⟩)) rfl (fun W hW => gx_iaddr (i := 3) (sz := 1) rfl rfl rfl Tryz.underlying137 size_u32 (by decide) rfl) hS8 ?_;simp only [zz];refine aU 12 (.int .u32 ((z.d).toNat : Int)) rfl (fun W hW => exec_load1 rfl rfl (by kernel_rfl) (by rw [Nat.zero_add, Nat.mul_one]; exact hW 3 (by decide))) hS8 ?_
     simp only [zz];refine aM 13 (.int .u32 ((T1).toNat : Int)) hS8 ?_;simp only [zz];refine aU 14 (.int .u32 ((z.d + T1).toNat : Int)) rfl (fun W hW => wd_add rfl rfl rfl) hS8 ?_;simp only [zz];refine aM 15 (.int .u32 ((z.e).toNat : Int)) hS8 ?_;simp only [zz];refine aM 16 (.slice (some ⟨g, 0, none⟩) 8 c) hS8 ?_;simp only [zz];refine aU 17 (.pointer (some ⟨g, 0 + (5) * 1, none⟩)) rfl (fun W hW => gx_iaddr (i := 5) (sz := 1) rfl rfl rfl Tryz.underlying137 size_u32 (by decide) rfl) hS8 ?_;simp only [zz];refine aU 18 (.int .u32 ((z.f).toNat : Int)) rfl (fun W hW => exec_load1 rfl rfl (by kernel_rfl) (by rw [Nat.zero_add, Nat.mul_one]; exact hW 5 (by decide))) hS8 ?_;simp only [zz];refine aM 19 (.slice (some ⟨g, 0, none⟩) 8 c) hS8 ?_;simp only [zz];refine aU 20 (.pointer (some ⟨g, 0 + (6) * 1, none⟩)) rfl (fun W hW => gx_iaddr (i := 6) (sz := 1) rfl rfl rfl Tryz.underlying137 size_u32 (by decide) rfl) hS8 ?_;simp only [zz];refine aU 21 (.int .u32 ((z.g).toNat : Int)) rfl (fun W hW => exec_load1 rfl rfl (by kernel_rfl) (by rw [Nat.zero_add, Nat.mul_one]; exact hW 6 (by decide))) hS8 ?_;simp only [zz]
     have HON := zH (orw_new wd8 z2.l 8 rfl (by decide))
     have HTA := zH ((Turn.refl nowhere wd8).alloc (.cells (wds z2.l) 93))
     have HBW := zH (show (Instr.buildSlice 137 8 #[(0, .int .u32 ((T1 + T2).toNat : Int)), (1, .int .u32 ((z.a).toNat : Int)), (2, .int .u32 ((z.b).toNat : Int)), (3, .int .u32 ((z.c).toNat : Int)), (4, .int .u32 ((z.d + T1).toNat : Int)), (5, .int .u32 ((z.e).toNat : Int)), (6, .int .u32 ((z.f).toNat : Int)), (7, .int .u32 ((z.g).toNat : Int))]).run Tryz.prog wd8 = .ok (.slice (some ⟨wd8.heap.size, 0, none⟩) 8 8) (wd8.alloc (.cells (wds z2.l) 93)) from by rw [HX.out]; exact build_w8 ⟨T1 + T2, z.a, z.b, z.c, z.d + T1, z.e, z.f, z.g⟩ wd8)
     refine alw_step (i := 22) (by kernel_rfl) rfl rfl ?_
     intro K1 HK1
     refine wp_run (v := .slice (some ⟨wd8.heap.size, 0, none⟩) 8 8) (w' := wd8.alloc (.cells (wds z2.l) 93)) (bx_slice8 rfl rfl rfl rfl rfl rfl rfl rfl rfl HBW.out) ?_
     have hS9 : (fun W => V8 W g z) (wd8.alloc (.cells (wds z2.l) 93)) := hS8.still HTA.out
     refine HK1.out _ _ ⟨hS9, ?_⟩
     clear HK1 HBW
     try simp only [zz]
     refine aU 23 (.slice (some ⟨wd8.heap.size, 0, none⟩) 8 8) rfl (fun W hW => gx_assign rfl rfl) hS9 ?_;simp only [zz]
     refine alw_done rfl ?_
     refine NoPanic.normal ?_
     try simp only [zz]
     have HTQ := zH (HD8.out.trans HTA.out fun _ _ e => e)
     have HVL9 := zH (HVL.out.still HTQ.out)
     have HTR9 := zH (HTR.out.trans HTQ.out fun _ _ e => e)
     have HON9 := zH (HON.out.less (show w.heap.size ≤ wd8.heap.size from (HTR.out.trans HD8.out fun _ _ e => e).size))
     go_upto_region 13 with fail
     refine wp_region_lit ?_
     refine nM (.int .i64 (t : Int)) ?_;simp only [zz];refine nR (.int .i64 ((t + 1 : Nat) : Int)) (ix_add rfl rfl rfl (by omega) (by omega)) ?_;simp only [zz];refine nA (.int .i64 ((t + 1 : Nat) : Int)) ?_;simp only [zz]
     go_wp2_with fail
     go_roundg (64 - (t + 1))
     case measure => have := HGK.out; have := HLT.out; omega
     case rel => exact ⟨t + 1, _, 8, rfl, rfl, by have := HLT.out; omega, by rw [HZ2.out]; exact HON9.out, HVL9.out, HTR9.out⟩
   ·as_aux_lemma =>
     obtain rfl : t = 64 := by omega
     clear hlt HGK yt HVL
     generalize Sh.rs s L 64 = z at HC HOR
     have HV := zH (orw_v8 HOR.out)
     clear HOR
     go_upto_region 12 with fail
     refine wp_region_lit ?_
     refine nM (.int .i64 ((64 : Nat) : Int)) ?_;simp only [zz];refine nR (.bool false) (ix_lss rfl rfl rfl (by decide)) ?_;simp only [zz]
     obtain ⟨wz, hwz⟩ : ∃ x, x = wr := ⟨_, rfl⟩
     rw [← hwz] at HV HTR ⊢
     clear hwz
     have HO0 := zH (orw_zero wz (Nat.le_refl _))
     have HTA := zH ((Turn.refl nowhere wz).alloc (.cells #[] 93))
     go_upto_region 19 with fail
     refine wp_region_lit ?_
     refine wR (v := .slice (some ⟨wz.heap.size, 0, none⟩) 0 0) (w' := wz.alloc (.cells #[] 93)) wn (bx_slice0 rfl (build_w0 wz)) ?_
     simp only [zz];refine nA (.slice (some ⟨wz.heap.size, 0, none⟩) 0 0) ?_;simp only [zz]
     go_upto_region 20 with fail
     refine wp_region_lit ?_
     refine nA (.int .i64 0) ?_;simp only [zz]
     go_wp2_with fail
     go_loopg [15, 16] 8 (fun gk v iv wq => ∃ i : Nat, iv = .int .i64 (i : Int) ∧ i + gk = 8 ∧ Orw wq wz.heap.size 93 1 v (rW (cz.l.take i)) ∧ Turn nowhere wz wq)
     case atStart => exact ⟨0, rfl, rfl, HO0.out, HTA.out⟩
     clear HO0 HTA
     obtain ⟨i, rfl, hgk, hor, htr⟩ := hrel
     have yi : (i : Int) ≤ 8 := by omega
     have HGK := zH hgk
     have HOR := zH hor
     have HTZ := zH htr
     have HTL := zH (show (cz.l.take i).length = i from by rw [List.length_take]; show min i 8 = i; omega)
     obtain ⟨A5, c5, rfl, _⟩ := hor.form
     clear hgk hor htr
     rw [rW_len, HTL.out] at HOR ⊢
     by_cases hlt : i < 8
     ·as_aux_lemma =>
       have HLT := zH hlt
       have y3 : (i : Int) < 8 := by omega
       have HHW := zH (HH.out.still (HTR.out.trans HTZ.out fun _ _ e => e) i hlt)
       have HVW := zH (HV.out.still HTZ.out i hlt)
       have HN := zH (take_next cz.l (i := i) hlt)
       have HG := zH (show cz.l.getD i 0 = s.l.getD i 0 + z.l.getD i 0 from by rw [HC.out]; exact add8_get s z hlt)
       clear hlt
       obtain ⟨xs, hxs⟩ : ∃ x, s.l.getD i 0 = x := ⟨_, rfl⟩
       obtain ⟨xz, hxz⟩ : ∃ x, z.l.getD i 0 = x := ⟨_, rfl⟩
       rw [hxs] at HHW HG
       rw [hxz] at HVW HG
       clear hxs hxz
       go_upto_region 21 with fail
       refine wp_region_lit ?_
       refine nM (.int .i64 (i : Int)) ?_;simp only [zz];refine nR (.bool true) (ix_lss rfl rfl rfl (decide_eq_true y3)) ?_;simp only [zz]
       go_upto_region 23 with fail
       refine wp_region_till (fun W => W.cell? ⟨gh, i, none⟩ = some (.int .u32 (xs.toNat : Int)) ∧ W.cell? ⟨g, i, none⟩ = some (.int .u32 (xz.toNat : Int))) 11 (by kernel_rfl) ?_
       have hS0 : (fun W => W.cell? ⟨gh, i, none⟩ = some (.int .u32 (xs.toNat : Int)) ∧ W.cell? ⟨g, i, none⟩ = some (.int .u32 (xz.toNat : Int))) wr.drew := ⟨HHW.out, HVW.out⟩
       have HD := zH ((Turn.refl nowhere wr).drew)
       generalize wr.drew = wb at *
       refine tQ [11] 0 (.slice A5 i c5) rfl (fun W hW => exec_move rfl rfl) hS0 ?_;simp only [zz];refine tQ [3, 4, 9, 10, 11] 1 (.slice (some ⟨gh, 0, none⟩) 8 ch) rfl (fun W hW => exec_move rfl rfl) hS0 ?_;simp only [zz];refine tQ [3, 4, 9, 10, 11] 2 (.int .i64 (i : Int)) rfl (fun W hW => exec_move rfl rfl) hS0 ?_;simp only [zz];refine tQ [4, 9, 10, 11] 3 (.pointer (some ⟨gh, 0 + (i) * 1, none⟩)) rfl (fun W hW => gx_iaddr (i := i) (sz := 1) rfl rfl rfl Tryz.underlying137 size_u32 HLT.out rfl) hS0 ?_;simp only [zz];refine tQ [9, 10, 11] 4 (.int .u32 ((xs).toNat : Int)) rfl (fun W hW => exec_load1 rfl rfl (by kernel_rfl) (by rw [Nat.zero_add, Nat.mul_one]; exact hW.1)) hS0 ?_;simp only [zz];refine tQ [7, 8, 9, 10, 11] 5 (.slice (some ⟨g, 0, none⟩) 8 c) rfl (fun W hW => exec_move rfl rfl) hS0 ?_;simp only [zz];refine tQ [7, 8, 9, 10, 11] 6 (.int .i64 (i : Int)) rfl (fun W hW => exec_move rfl rfl) hS0 ?_;simp only [zz];refine tQ [8, 9, 10, 11] 7 (.pointer (some ⟨g, 0 + (i) * 1, none⟩)) rfl (fun W hW => gx_iaddr (i := i) (sz := 1) rfl rfl rfl Tryz.underlying137 size_u32 HLT.out rfl) hS0 ?_;simp only [zz];refine tQ [9, 10, 11] 8 (.int .u32 ((xz).toNat : Int)) rfl (fun W hW => exec_load1 rfl rfl (by kernel_rfl) (by rw [Nat.zero_add, Nat.mul_one]; exact hW.2)) hS0 ?_;simp only [zz];refine tQ [10, 11] 9 (.int .u32 ((xs + xz).toNat : Int)) rfl (fun W hW => wd_add rfl rfl rfl) hS0 ?_;simp only [zz]
       have HTwb := zH (HTZ.out.trans HD.out fun _ _ e => e)
       obtain ⟨A6, c6, w7, hap, ho7, ht7⟩ := orw_add elmW (ty := 137) (W1 := wz) (HOR.out.still HD.out) HTwb.out (w1 (xs + xz)) rfl (w1_one _) (by rw [rW_len, HTL.out]; have := HLT.out; omega)
       rw [rW_len, HTL.out] at hap ho7
       have HAP := zH hap
       have HO7 := zH (show Orw w7 wz.heap.size 93 1 (.slice A6 (i + 1) c6) (rW (cz.l.take (i + 1))) from by
        rw [HN.out, rW_snoc, HG.out]
        exact ho7)
       have HT7 := zH ht7
       clear hap ht7
       refine till_step (i := 10) (by kernel_rfl) rfl rfl ?_
       intro K1 HK1
       refine wp_run (v := .slice (some ⟨wb.heap.size, 0, none⟩) 1 1) (w' := wb.alloc (.cells (w1 (xs + xz)).toArray 93)) (exec_buildSlice1 rfl rfl (build_one elmW (w1 (xs + xz)) rfl (by decide) _ rfl wb)) ?_
       have hta := (Turn.refl nowhere wb).alloc (.cells (w1 (xs + xz)).toArray 93)
       refine HK1.out _ _ ⟨fun _ => ⟨cell_still hS0.1 hta, cell_still hS0.2 hta⟩, ?_⟩
       clear HK1 hta
       try simp only [zz]
       refine till_tail 11 rfl (by kernel_rfl) ?_
       clear hS0
       refine wR (v := .slice A6 (i + 1) c6) (w' := w7) wn (exec_append rfl rfl rfl HAP.out) ?_
       simp only [zz];refine nA (.slice A6 (i + 1) c6) ?_;simp only [zz]
       refine wpList_nil ?_
       refine NoPanic.normal ?_
       try simp only [zz]
       go_upto_region 22 with fail
       refine wp_region_lit ?_
       refine nM (.int .i64 (i : Int)) ?_;simp only [zz];refine nR (.int .i64 ((i + 1 : Nat) : Int)) (ix_add rfl rfl rfl (by omega) (by omega)) ?_;simp only [zz];refine nA (.int .i64 ((i + 1 : Nat) : Int)) ?_;simp only [zz]
       go_wp2_with fail
       go_roundg (8 - (i + 1))
       case measure => have := HGK.out; have := HLT.out; omega
       case rel => exact ⟨i + 1, rfl, by have := HLT.out; omega, HO7.out, HT7.out⟩
     ·as_aux_lemma =>
       obtain rfl : i = 8 := by omega
       clear hlt HGK yi
       rw [show cz.l.take 8 = cz.l from rfl] at HOR
       obtain ⟨g6, c6, he6, _, _, _, _⟩ := orw_at0 HOR.out (by rw [rW_len, h8_len]; decide)
       injection he6 with e1 e2 e3
       subst e1
       clear e2 e3
       go_upto_region 21 with fail
       refine wp_region_lit ?_
       refine nM (.int .i64 ((8 : Nat) : Int)) ?_;simp only [zz];refine nR (.bool false) (ix_lss rfl rfl rfl (by decide)) ?_;simp only [zz]
       go_upto_region 24 with fail
       refine wp_region_lit ?_
       refine nM (.slice (some ⟨g6, 0, none⟩) 8 c5) ?_;simp only [zz];refine nA (.slice (some ⟨g6, 0, none⟩) 8 c5) ?_;simp only [zz]
       go_wp2_with fail
       go_ret
       exact ⟨g6, c5, rfl, HOR.out.less HTR.out.size, HTR.out.trans HTZ.out fun _ _ e => e⟩
end Go.Proofs.YtkagijifkpoplaaGreatDoor
