/-
  groatlaw06's shown, walked. No conditions.
-/
import Derived.Test.YtagoijgmoaffdaaLkH
import Derived.Lib.SlBytesConst
namespace Go.Proofs.Ytagoijgmoaffdaa
open Go.RowKit
open Lkk
set_option linter.unusedVariables false
set_option linter.unusedSimpArgs false
theorem sh1 : feed ([] ++ [0, 2, 97]) = ⟨[], [0, 2, 97], true⟩ := by rfl
theorem sh2 : feed ([0, 2, 97] ++ [98, 0, 1, 99, 0]) = ⟨[[97, 98], [99]], [0], true⟩ := by rfl
theorem bs_built (w : World) (bs : List UInt8) (cs : Array Value) (h : cs = byteCells bs) (hl : bs.length ≤ 1000) : Bs (w.alloc (.cells cs 5)) (some ⟨w.heap.size, 0, none⟩) bs.length bs := by
  subst h
  exact bs_new w bs _ _ _ rfl (by unfold maxLen; omega)
theorem bs_builtF (w : World) (bs : List UInt8) (cs : Array Value) (fr : Nat × Nat) (h : cs = byteCells bs) (hl : bs.length ≤ 1000) : Bs (w.alloc (.cells cs 5 fr)) (some ⟨w.heap.size, 0, none⟩) bs.length bs := by
  subst h
  exact bs_new w bs _ _ _ rfl (by unfold maxLen; omega)
theorem lx_conv {a : Act} {o : Oper} {x : Operand} {u v : Value} {W W' : World} (ho : o.op = .convert 22 22 x) (hx : a.eval x = u) (h : (convert 22 22 u).run Try.prog W = .ok v W') : (execOp a.eval o).run Try.prog W = .ok (.value v) W' := by
  unfold execOp
  simp only [ho, hx, h, Sem.run_bind, Sem.run_pure, Result.andThen_ok]
theorem build_3 (x y z : Int) (W : World) : (Instr.buildSlice 22 3 #[(0, .int .u8 x), (1, .int .u8 y), (2, .int .u8 z)]).run Try.prog W = .ok (.slice (some ⟨W.heap.size, 0, none⟩) 3 3) (W.alloc (.cells #[.int .u8 x, .int .u8 y, .int .u8 z] 5)) := by kernel_rfl
theorem build_5 (x y z u v : Int) (W : World) : (Instr.buildSlice 22 5 #[(0, .int .u8 x), (1, .int .u8 y), (2, .int .u8 z), (3, .int .u8 u), (4, .int .u8 v)]).run Try.prog W = .ok (.slice (some ⟨W.heap.size, 0, none⟩) 5 5) (W.alloc (.cells #[.int .u8 x, .int .u8 y, .int .u8 z, .int .u8 u, .int .u8 v] 5)) := by kernel_rfl
theorem exec_build3 {P : Program} {a : Act} {o : Oper} {t : TypeId} {x y z : Operand} {u v r q : Value} {W W' : World} (ho : o.op = .buildSlice t 3 #[(0, x), (1, y), (2, z)]) (hx : a.eval x = u) (hy : a.eval y = v) (hz : a.eval z = r)
    (h : (Instr.buildSlice t 3 #[(0, u), (1, v), (2, r)]).run P W = .ok q W') : (execOp a.eval o).run P W = .ok (.value q) W' := by
  unfold execOp
  simp only [ho, List.map_toArray, List.map_cons, List.map_nil, hx, hy, hz, h, Sem.run_bind, Sem.run_pure, Result.andThen_ok]
theorem exec_build5 {P : Program} {a : Act} {o : Oper} {t : TypeId} {x0 x1 x2 x3 x4 : Operand} {u0 u1 u2 u3 u4 q : Value} {W W' : World} (ho : o.op = .buildSlice t 5 #[(0, x0), (1, x1), (2, x2), (3, x3), (4, x4)]) (h0 : a.eval x0 = u0) (h1 : a.eval x1 = u1) (h2 : a.eval x2 = u2) (h3 : a.eval x3 = u3) (h4 : a.eval x4 = u4)
    (h : (Instr.buildSlice t 5 #[(0, u0), (1, u1), (2, u2), (3, u3), (4, u4)]).run P W = .ok q W') : (execOp a.eval o).run P W = .ok (.value q) W' := by
  unfold execOp
  simp only [ho, List.map_toArray, List.map_cons, List.map_nil, h0, h1, h2, h3, h4, h, Sem.run_bind, Sem.run_pure, Result.andThen_ok]
set_option maxRecDepth 20000 in
set_option maxHeartbeats 2000000 in
theorem shown_walk (w : World) : Calls Try.prog 9 #[] w fun e w' => e = .returned (.bool true) ∧ Turn nowhere w w' := by
  go_enter Try.func9, Try.ntmps9
  go_upto_region 4 with (go_at_call 12; refine (newL_walk _).mono ?_; rintro e w1 ⟨p, rfl, hL, ht1, hp⟩)
  have HL := Lib.hid hL
  have HT1 := Lib.hid ht1
  have HP := Lib.hid hp
  clear hL ht1 hp
  refine wp_region_lit ?_
  refine wpList_run (v := .pointer (some ⟨p, 0, none⟩)) rfl (exec_move rfl rfl) ?_
  simp only [Act.put, List.setIfInBounds_toArray, List.set_cons_zero, List.set_cons_succ]
  refine wpList_run (v := .slice (some ⟨w1.heap.size, 0, none⟩) 3 3) (w' := w1.alloc (.cells #[.int .u8 0, .int .u8 2, .int .u8 97] 5)) rfl (exec_build3 rfl rfl rfl rfl (build_3 _ _ _ _)) ?_
  simp only [Act.put, List.setIfInBounds_toArray, List.set_cons_zero, List.set_cons_succ]

  have hta := (Turn.refl nowhere w1).alloc (.cells #[.int .u8 0, .int .u8 2, .int .u8 97] 5)
  have hbs := bs_built w1 [0, 2, 97] #[.int .u8 0, .int .u8 2, .int .u8 97] rfl (by decide)
  have hfd := feed_walk (c := 3) (HL.out.turn hta (fun _ _ e => e)) hbs (fun e => by cases e) (by decide)
  rw [sh1] at hfd
  have HTA := Lib.hid (HT1.out.trans hta (fun _ _ e => e))
  have HFD := Lib.hid hfd
  clear hta hbs hfd
  generalize World.alloc w1 (.cells #[.int .u8 0, .int .u8 2, .int .u8 97] 5) = w2 at *
  go_wp2_with fail
  refine HFD.out.mono ?_
  rintro e w3 ⟨fv1, v1, rfl, hL3, hf3, ht3, hs3⟩
  simp only [Act.put, List.setIfInBounds_toArray, List.set_cons_zero, List.set_cons_succ]
  rename_i K3 hK3
  refine hK3 _ _ ?_
  clear hK3 K3 HFD HL
  obtain ⟨fA1, fc1, rfl⟩ := hf3.form
  have HL3 := Lib.hid hL3
  have HT3 := Lib.hid (HTA.out.trans ht3 (fun k hk e => by
    have := HP.out
    rcases e with e | e
    · omega
    · cases e))
  have HS3 := Lib.hid (show ∀ k, foot p v1 k → w.heap.size ≤ k from fun k hk => by
    have h1 := HP.out
    have h2 := HTA.out.size
    rcases hs3 k hk with (h3 | h3) | h3
    · omega
    · cases h3
    · omega)
  clear hL3 hf3 ht3 hs3 HTA HT1
  go_upto_region 6 with (go_at_call 17; refine (held_walk HL3.out).mono ?_; rintro e w4 ⟨rfl, rfl⟩)
  refine wp_region_lit ?_
  refine wpList_run (v := .pointer (some ⟨p, 0, none⟩)) rfl (exec_move rfl rfl) ?_
  simp only [Act.put, List.setIfInBounds_toArray, List.set_cons_zero, List.set_cons_succ]
  refine wpList_run (v := .slice (some ⟨w4.heap.size, 0, none⟩) 5 5) (w' := w4.alloc (.cells #[.int .u8 98, .int .u8 0, .int .u8 1, .int .u8 99, .int .u8 0] 5)) rfl (exec_build5 rfl rfl rfl rfl rfl rfl (build_5 _ _ _ _ _ _)) ?_
  simp only [Act.put, List.setIfInBounds_toArray, List.set_cons_zero, List.set_cons_succ]

  have hta := (Turn.refl nowhere w4).alloc (.cells #[.int .u8 98, .int .u8 0, .int .u8 1, .int .u8 99, .int .u8 0] 5)
  have hbs := bs_built w4 [98, 0, 1, 99, 0] #[.int .u8 98, .int .u8 0, .int .u8 1, .int .u8 99, .int .u8 0] rfl (by decide)
  have hfd := feed_walk (c := 5) (HL3.out.turn hta (fun _ _ e => e)) hbs (fun e => by cases e) (by decide)
  rw [sh2] at hfd
  have HTA := Lib.hid (HT3.out.trans hta (fun _ _ e => e))
  have HFD := Lib.hid hfd
  clear hta hbs hfd HL3
  generalize World.alloc w4 (.cells #[.int .u8 98, .int .u8 0, .int .u8 1, .int .u8 99, .int .u8 0] 5) = w5 at *
  go_wp2_with fail
  refine HFD.out.mono ?_
  rintro e w6 ⟨fv2, v2, rfl, hL6, hf6, ht6, hs6⟩
  simp only [Act.put, List.setIfInBounds_toArray, List.set_cons_zero, List.set_cons_succ]
  rename_i K3 hK3
  refine hK3 _ _ ?_
  clear hK3 K3 HFD
  obtain ⟨fA2, fc2, rfl⟩ := hf6.form
  have HL6 := Lib.hid hL6
  have HF6 := Lib.hid hf6.frr
  have HT6 := Lib.hid (HTA.out.trans ht6 (fun k hk e => by
    have h1 := HS3.out k e
    omega))
  clear hL6 hf6 ht6 hs6 HTA
  go_upto_region 8 with (go_at_call 10; refine (pack_walk (bs_nil _ none) (fun _ => rfl) (by decide)).mono ?_; rintro e w7 ⟨v7, rfl, ho7, ht7, hn7⟩)
  obtain ⟨A7, c7, rfl⟩ := own_form ho7
  have HL7 := Lib.hid (HL6.out.turn ht7 (fun _ _ e => e))
  have HF7 := Lib.hid (HF6.out.still ht7)
  have HT7 := Lib.hid (HT6.out.trans ht7 (fun _ _ e => e))
  clear ho7 ht7 hn7
  refine wp_region_lit ?_
  refine wpList_run (v := .slice (some ⟨w7.heap.size, 0, none⟩) 2 2) (w' := w7.alloc (.cells #[.int .u8 97, .int .u8 98] 5)) rfl (exec_build2 rfl rfl rfl (build_two _ _ _)) ?_
  simp only [Act.put, List.setIfInBounds_toArray, List.set_cons_zero, List.set_cons_succ]
  refine wpList_run (v := .slice (some ⟨w7.heap.size, 0, none⟩) 2 2) (w' := w7.alloc (.cells #[.int .u8 97, .int .u8 98] 5 (2, 3))) rfl (lx_conv rfl rfl (Lib.run_convert_bytes_const _ _ 5 _ _ _ Try.underlying22 Try.underlying5)) ?_
  simp only [Act.put, List.setIfInBounds_toArray, List.set_cons_zero, List.set_cons_succ]

  have hta := (Turn.refl nowhere w7).alloc (.cells #[.int .u8 97, .int .u8 98] 5 (2, 3))
  have hbs : Bs _ _ 2 _ := bs_builtF w7 [97, 98] #[.int .u8 97, .int .u8 98] (2, 3) rfl (by decide)
  have HBS := Lib.hid hbs
  have HL7 := Lib.hid (HL7.out.turn hta (fun _ _ e => e))
  have HF7 := Lib.hid (HF7.out.still hta)
  have HT7 := Lib.hid (HT7.out.trans hta (fun _ _ e => e))
  clear hta hbs
  generalize w7.heap.size = g7 at *
  generalize World.alloc w7 (.cells #[.int .u8 97, .int .u8 98] 5 (2, 3)) = w8 at *
  have HPK := Lib.hid (pack_walk (c := 2) HBS.out (fun e => by cases e) (by decide))
  go_wp2_with fail
  refine HPK.out.mono ?_
  rintro e w9 ⟨v9, rfl, ho9, ht9, hn9⟩
  simp only [Act.put, List.setIfInBounds_toArray, List.set_cons_zero, List.set_cons_succ]
  rename_i K3 hK3
  refine hK3 _ _ ?_
  clear hK3 K3
  go_upto_region 9 with fail
  obtain ⟨A9, c9, rfl⟩ := own_form ho9
  have ho9' : Own w9 0 5 (.slice A9 4 c9) [0, 2, 97, 98] := ho9
  have HO9 := Lib.hid ho9'.bs.1
  have HL9 := Lib.hid (HL7.out.turn ht9 (fun _ _ e => e))
  have HF9 := HF7.out.still ht9
  have HT9 := Lib.hid (HT7.out.trans ht9 (fun _ _ e => e))
  obtain ⟨g1, b1, o1, m1, cc1, f1, rfl, hc1, hf1, hb1, hl1⟩ := frr_at (k := 0) (n := 2) HF9 (by decide)
  obtain ⟨g2, b2, o2, m2, cc2, f2, e2, hc2, hf2, hb2, hl2⟩ := frr_at (k := 1) (n := 2) HF9 (by decide)
  obtain rfl : g1 = g2 := by injection e2 with e2; injection e2
  have ef1 : f1 = [97, 98] := (Option.some.inj hf1).symm
  have ef2 : f2 = [99] := (Option.some.inj hf2).symm
  subst ef1 ef2
  have HC1 := Lib.hid hc1
  have HC2 := Lib.hid hc2
  have HB1 := Lib.hid hb1
  have HB2 := Lib.hid hb2
  clear ho9 ho9' ht9 hn9 HF9 hl1 hl2 e2 hf1 hf2 hc1 hc2 hb1 hb2
  refine wp_region_lit ?_
  refine wpList_run (v := .slice fA1 0 fc1) rfl (exec_move rfl rfl) ?_
  simp only [Act.put, List.setIfInBounds_toArray, List.set_cons_zero, List.set_cons_succ]
  refine wpList_run (v := .int .i64 0) rfl (lx_flen rfl rfl) ?_
  simp only [Act.put, List.setIfInBounds_toArray, List.set_cons_zero, List.set_cons_succ]
  refine wpList_run (v := .bool true) rfl (ix_eql rfl rfl rfl (by decide)) ?_
  simp only [Act.put, List.setIfInBounds_toArray, List.set_cons_zero, List.set_cons_succ]
  refine wpList_run (v := .bool true) rfl (exec_move rfl rfl) ?_
  simp only [Act.put, List.setIfInBounds_toArray, List.set_cons_zero, List.set_cons_succ]
  refine wpList_run (v := .int .i64 0) rfl (exec_move rfl rfl) ?_
  simp only [Act.put, List.setIfInBounds_toArray, List.set_cons_zero, List.set_cons_succ]
  refine wpList_run (v := .bool true) rfl (ix_eql rfl rfl rfl (by decide)) ?_
  simp only [Act.put, List.setIfInBounds_toArray, List.set_cons_zero, List.set_cons_succ]
  refine wpList_run (v := .bool true) rfl (ix_pickT rfl rfl rfl) ?_
  simp only [Act.put, List.setIfInBounds_toArray, List.set_cons_zero, List.set_cons_succ]
  refine wpList_run (v := .bool true) rfl (exec_move rfl rfl) ?_
  simp only [Act.put, List.setIfInBounds_toArray, List.set_cons_zero, List.set_cons_succ]
  refine wpList_run (v := .int .i64 3) rfl (exec_move rfl rfl) ?_
  simp only [Act.put, List.setIfInBounds_toArray, List.set_cons_zero, List.set_cons_succ]
  refine wpList_run (v := .bool true) rfl (ix_eql rfl rfl rfl (by decide)) ?_
  simp only [Act.put, List.setIfInBounds_toArray, List.set_cons_zero, List.set_cons_succ]
  refine wpList_run (v := .bool true) rfl (ix_pickT rfl rfl rfl) ?_
  simp only [Act.put, List.setIfInBounds_toArray, List.set_cons_zero, List.set_cons_succ]
  refine wpList_run (v := .bool true) rfl (exec_move rfl rfl) ?_
  simp only [Act.put, List.setIfInBounds_toArray, List.set_cons_zero, List.set_cons_succ]
  refine wpList_run (v := .slice (some ⟨g1, 0, none⟩) 2 fc2) rfl (exec_move rfl rfl) ?_
  simp only [Act.put, List.setIfInBounds_toArray, List.set_cons_zero, List.set_cons_succ]
  refine wpList_run (v := .int .i64 2) rfl (lx_flen (n := 2) rfl rfl) ?_
  simp only [Act.put, List.setIfInBounds_toArray, List.set_cons_zero, List.set_cons_succ]
  refine wpList_run (v := .bool true) rfl (ix_eql rfl rfl rfl (by decide)) ?_
  simp only [Act.put, List.setIfInBounds_toArray, List.set_cons_zero, List.set_cons_succ]
  refine wpList_run (v := .bool true) rfl (ix_pickT rfl rfl rfl) ?_
  simp only [Act.put, List.setIfInBounds_toArray, List.set_cons_zero, List.set_cons_succ]
  refine wpList_run (v := .bool true) rfl (exec_move rfl rfl) ?_
  simp only [Act.put, List.setIfInBounds_toArray, List.set_cons_zero, List.set_cons_succ]
  refine wpList_run (v := .int .i64 0) rfl (exec_move rfl rfl) ?_
  simp only [Act.put, List.setIfInBounds_toArray, List.set_cons_zero, List.set_cons_succ]
  refine wpList_run (v := .bool true) rfl (ix_eql rfl rfl rfl (by decide)) ?_
  simp only [Act.put, List.setIfInBounds_toArray, List.set_cons_zero, List.set_cons_succ]
  refine wpList_run (v := .bool true) rfl (ix_pickT rfl rfl rfl) ?_
  simp only [Act.put, List.setIfInBounds_toArray, List.set_cons_zero, List.set_cons_succ]
  refine wpList_run (v := .bool true) rfl (exec_move rfl rfl) ?_
  simp only [Act.put, List.setIfInBounds_toArray, List.set_cons_zero, List.set_cons_succ]
  refine wpList_run (v := .slice (some ⟨g1, 0, none⟩) 2 fc2) rfl (exec_move rfl rfl) ?_
  simp only [Act.put, List.setIfInBounds_toArray, List.set_cons_zero, List.set_cons_succ]
  refine wpList_run (v := .pointer (some ⟨g1, 0, none⟩)) rfl (gx_iaddr (i := 0) (sz := 1) rfl rfl rfl Try.underlying28 (by kernel_rfl) (by decide) (by decide)) ?_
  simp only [Act.put, List.setIfInBounds_toArray, List.set_cons_zero, List.set_cons_succ]
  refine wpList_run (v := .slice (some ⟨b1, o1, none⟩) m1 cc1) rfl (lx_sl rfl rfl HC1.out) ?_
  simp only [Act.put, List.setIfInBounds_toArray, List.set_cons_zero, List.set_cons_succ]
  refine wpList_run (v := strV [97, 98]) rfl (exec_strBs rfl rfl HB1.out) ?_
  simp only [Act.put, List.setIfInBounds_toArray, List.set_cons_zero, List.set_cons_succ]
  refine wpList_run (v := .bool true) rfl (exec_seql (l := [97, 98]) (m := [97, 98]) rfl rfl rfl) ?_
  simp only [Act.put, List.setIfInBounds_toArray, List.set_cons_zero, List.set_cons_succ]
  refine wpList_run (v := .bool true) rfl (ix_pickT rfl rfl rfl) ?_
  simp only [Act.put, List.setIfInBounds_toArray, List.set_cons_zero, List.set_cons_succ]
  refine wpList_run (v := .bool true) rfl (exec_move rfl rfl) ?_
  simp only [Act.put, List.setIfInBounds_toArray, List.set_cons_zero, List.set_cons_succ]
  refine wpList_run (v := .slice (some ⟨g1, 0, none⟩) 2 fc2) rfl (exec_move rfl rfl) ?_
  simp only [Act.put, List.setIfInBounds_toArray, List.set_cons_zero, List.set_cons_succ]
  refine wpList_run (v := .pointer (some ⟨g1, 1, none⟩)) rfl (gx_iaddr (i := 1) (sz := 1) rfl rfl rfl Try.underlying28 (by kernel_rfl) (by decide) (by decide)) ?_
  simp only [Act.put, List.setIfInBounds_toArray, List.set_cons_zero, List.set_cons_succ]
  refine wpList_run (v := .slice (some ⟨b2, o2, none⟩) m2 cc2) rfl (lx_sl rfl rfl HC2.out) ?_
  simp only [Act.put, List.setIfInBounds_toArray, List.set_cons_zero, List.set_cons_succ]
  refine wpList_run (v := strV [99]) rfl (exec_strBs rfl rfl HB2.out) ?_
  simp only [Act.put, List.setIfInBounds_toArray, List.set_cons_zero, List.set_cons_succ]
  refine wpList_run (v := .bool true) rfl (exec_seql (l := [99]) (m := [99]) rfl rfl rfl) ?_
  simp only [Act.put, List.setIfInBounds_toArray, List.set_cons_zero, List.set_cons_succ]
  refine wpList_run (v := .bool true) rfl (ix_pickT rfl rfl rfl) ?_
  simp only [Act.put, List.setIfInBounds_toArray, List.set_cons_zero, List.set_cons_succ]
  refine wpList_run (v := .bool true) rfl (exec_move rfl rfl) ?_
  simp only [Act.put, List.setIfInBounds_toArray, List.set_cons_zero, List.set_cons_succ]
  refine wpList_run (v := .pointer (some ⟨p, 0, none⟩)) rfl (exec_move rfl rfl) ?_
  simp only [Act.put, List.setIfInBounds_toArray, List.set_cons_zero, List.set_cons_succ]

  go_wp2_with fail
  refine (held_walk HL9.out).mono ?_
  rintro e w10 ⟨rfl, rfl⟩
  simp only [Act.put, List.setIfInBounds_toArray, List.set_cons_zero, List.set_cons_succ]
  rename_i K3 hK3
  refine hK3 _ _ ?_
  clear hK3 K3
  refine wpList_run (v := .bool true) rfl (ix_eql rfl rfl rfl (by decide)) ?_
  simp only [Act.put, List.setIfInBounds_toArray, List.set_cons_zero, List.set_cons_succ]
  refine wpList_run (v := .bool true) rfl (ix_pickT rfl rfl rfl) ?_
  simp only [Act.put, List.setIfInBounds_toArray, List.set_cons_zero, List.set_cons_succ]
  refine wpList_run (v := .bool true) rfl (exec_move rfl rfl) ?_
  simp only [Act.put, List.setIfInBounds_toArray, List.set_cons_zero, List.set_cons_succ]
  refine wpList_run (v := .int .i64 60) rfl (exec_move rfl rfl) ?_
  simp only [Act.put, List.setIfInBounds_toArray, List.set_cons_zero, List.set_cons_succ]
  refine wpList_run (v := .bool true) rfl (ix_eql rfl rfl rfl (by decide)) ?_
  simp only [Act.put, List.setIfInBounds_toArray, List.set_cons_zero, List.set_cons_succ]
  refine wpList_run (v := .bool true) rfl (ix_pickT rfl rfl rfl) ?_
  simp only [Act.put, List.setIfInBounds_toArray, List.set_cons_zero, List.set_cons_succ]
  refine wpList_run (v := .bool true) rfl (exec_move rfl rfl) ?_
  simp only [Act.put, List.setIfInBounds_toArray, List.set_cons_zero, List.set_cons_succ]
  refine wpList_run (v := .int .i64 0) rfl (exec_move rfl rfl) ?_
  simp only [Act.put, List.setIfInBounds_toArray, List.set_cons_zero, List.set_cons_succ]
  refine wpList_run (v := .bool true) rfl (ix_eql rfl rfl rfl (by decide)) ?_
  simp only [Act.put, List.setIfInBounds_toArray, List.set_cons_zero, List.set_cons_succ]
  refine wpList_run (v := .bool true) rfl (ix_pickT rfl rfl rfl) ?_
  simp only [Act.put, List.setIfInBounds_toArray, List.set_cons_zero, List.set_cons_succ]
  refine wpList_run (v := .bool true) rfl (exec_move rfl rfl) ?_
  simp only [Act.put, List.setIfInBounds_toArray, List.set_cons_zero, List.set_cons_succ]
  refine wpList_run (v := .slice A9 4 c9) rfl (exec_move rfl rfl) ?_
  simp only [Act.put, List.setIfInBounds_toArray, List.set_cons_zero, List.set_cons_succ]
  refine wpList_run (v := strV [0, 2, 97, 98]) rfl (exec_strBs rfl rfl HO9.out) ?_
  simp only [Act.put, List.setIfInBounds_toArray, List.set_cons_zero, List.set_cons_succ]
  refine wpList_run (v := .bool true) rfl (exec_seql (l := [0, 2, 97, 98]) (m := [0, 2, 97, 98]) rfl rfl rfl) ?_
  simp only [Act.put, List.setIfInBounds_toArray, List.set_cons_zero, List.set_cons_succ]
  refine wpList_run (v := .bool true) rfl (ix_pickT rfl rfl rfl) ?_
  simp only [Act.put, List.setIfInBounds_toArray, List.set_cons_zero, List.set_cons_succ]

  go_wp2_with fail
  go_ret
  exact ⟨rfl, HT9.out⟩

end Go.Proofs.Ytagoijgmoaffdaa
