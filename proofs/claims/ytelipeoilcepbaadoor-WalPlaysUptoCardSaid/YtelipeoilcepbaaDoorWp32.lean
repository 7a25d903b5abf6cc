/-
  Texts in one file: WmT. Conditions: the tables and the errors read as the program's text lays them.
-/
import Derived.Test.YtelipeoilcepbaaDoorWp0
import Derived.Test.YtelipeoilcepbaaDoorWp31
namespace Go.Proofs.YtelipeoilcepbaaDoor
open Go.RowKit
open Wl (B8)
set_option linter.unusedVariables false
set_option linter.unusedSimpArgs false
set_option maxRecDepth 20000
theorem wx_slice1 {P : Program} {a : Act} {o : Oper} {t : TypeId} {x : Operand} {u q : Value} {W W' : World} (ho : o.op = .buildSlice t 1 #[(0, x)]) (hx : a.eval x = u)
    (h : (Instr.buildSlice t 1 #[(0, u)]).run P W = .ok q W') : (execOp a.eval o).run P W = .ok (.value q) W' := by
  unfold execOp
  simp [ho, hx, h]
theorem wx_conv {a : Act} {o : Oper} {x : Operand} {u v : Value} {W W' : World} (ho : o.op = .convert 38 38 x) (hx : a.eval x = u) (h : (convert 38 38 u).run Tryd.prog W = .ok v W') : (execOp a.eval o).run Tryd.prog W = .ok (.value v) W' := by
  unfold execOp
  simp only [ho, hx, h, Sem.run_bind, Sem.run_pure, Result.andThen_ok]
theorem build_b1 (z : Int) (W : World) : (Instr.buildSlice 38 1 #[(0, .int .u8 z)]).run Tryd.prog W = .ok (.slice (some ⟨W.heap.size, 0, none⟩) 1 1) (W.alloc (.cells #[.int .u8 z] 5)) := by kernel_rfl
theorem build_l1 (b : Nat) (W : World) : (Instr.buildSlice 33 1 #[(0, .slice (some ⟨b, 0, none⟩) 1 1)]).run Tryd.prog W = .ok (.slice (some ⟨W.heap.size, 0, none⟩) 1 1) (W.alloc (.cells #[.slice (some ⟨b, 0, none⟩) 1 1] 38)) := by kernel_rfl
theorem build_l2 (b c : Nat) (W : World) : (Instr.buildSlice 33 2 #[(0, .slice (some ⟨b, 0, none⟩) 1 1), (1, .slice (some ⟨c, 0, none⟩) 1 1)]).run Tryd.prog W = .ok (.slice (some ⟨W.heap.size, 0, none⟩) 2 2) (W.alloc (.cells #[.slice (some ⟨b, 0, none⟩) 1 1, .slice (some ⟨c, 0, none⟩) 1 1] 38)) := by kernel_rfl
theorem conv_b1 (z : Int) (W : World) : (convert 38 38 (.slice (some ⟨W.heap.size, 0, none⟩) 1 1)).run Tryd.prog (W.alloc (.cells #[.int .u8 z] 5)) = .ok (.slice (some ⟨W.heap.size, 0, none⟩) 1 1) (W.alloc (.cells #[.int .u8 z] 5 (1, 2))) := Lib.run_convert_bytes_const _ _ 5 _ _ _ Tryd.underlying38 Tryd.underlying5
theorem lit_bs {W : World} (z : UInt8) : Bs (W.alloc (.cells #[.int .u8 (z.toNat : Int)] 5 (1, 2))) (some ⟨W.heap.size, 0, none⟩) 1 [z] := by
  refine ⟨rfl, by decide, fun _ => ⟨_, 0, rfl, fun i hi => ?_⟩⟩
  obtain rfl : i = 0 := by omega
  exact cell_of_row _ _ 0 _ _ _ (heap_alloc_new W _)
theorem ptr_nilW {a : Act} {o : Oper} {W : World} {x y : Operand} {t u : TypeId} {p : Addr} (ho : o.op = .binOp .eql t x y u) (hx : a.eval x = .pointer (some p)) (hy : a.eval y = .pointer none) (ht : t = 26) : (execOp a.eval o).run Tryd.prog W = .ok (.value (.bool false)) W := by
  subst ht
  unfold execOp
  simp only [ho, hx, hy]
  go_simp
theorem room_five {D : Wl.Disk} {v : WalV} (h : Lgv D 5 v [] []) : roomN v = 4 := by
  have h1 : v.held = [0, 0, 0, 0, 0] := by rw [h.he, h.pl]; rfl
  have h2 := h.on.sgl
  unfold roomN freeB
  rw [h1]
  rcases (by omega : v.seg = 0 ∨ v.seg = 1 ∨ v.seg = 2 ∨ v.seg = 3 ∨ v.seg = 4) with e | e | e | e | e <;> rw [e] <;> decide
set_option maxRecDepth 20000 in
set_option maxHeartbeats 4000000 in
theorem shown_walk {w : World} (htab : Tab w) : Calls Tryd.prog 4 #[] w fun r w' => r = .returned (.bool true) ∧ Turn nowhere w w' := by
  have HTAB := Lib.hid htab
  clear htab
  go_enter Tryd.func4, Tryd.ntmps4
  go_upto_region 0 with fail
  refine wp_region_lit ?_
  refine nR (.bool false) (gx_assign rfl rfl) ?_;simp only [zz]
  go_upto_region 1 with fail
  refine wp_region_lit ?_
  have hgr := ground_walk (w := w) 322 (by decide) (by decide) HTAB.out
  refine wpList_op rfl fun K9 HK9 => ?_
  go_wp2_with fail
  refine (hgr).mono ?_
  rintro e w1 ⟨ht, p, x, F, s, d, v, vP, vH, rfl, hlg, hfu, hvf, hva, hdn, hF, hG, hdr⟩
  refine HK9.out _ _ ?_
  clear HK9
  try simp only [zz]
  have HL0 := Lib.hid (show Lg w1 x p 0 F s 65702 d 5 v vP vH [] [] from hlg)
  have HT1 := Lib.hid ht
  have HFU := Lib.hid hfu
  have HV0 := Lib.hid (And.intro hvf hva.2)
  have HNW := Lib.hid (show ∀ b, F b ∨ WalG x vP vH b → w.heap.size ≤ b from fun b hb => hb.elim (hF b) (hG b))
  have HRM := Lib.hid (room_five hlg.lv)
  have HDR := Lib.hid hdr
  have HDN := Lib.hid (show d.n = 322 from hdn)
  clear ht hlg hfu hvf hva hF hG hdn hdr hgr
  refine nR (.tuple #[.pointer (some ⟨p, 0, none⟩), .pointer (some ⟨x, 0, none⟩)]) (exec_move rfl rfl) ?_;simp only [zz];refine nR (.pointer (some ⟨p, 0, none⟩)) (ix_extract rfl rfl rfl) ?_;simp only [zz];refine nR (.pointer (some ⟨x, 0, none⟩)) (ix_extract rfl rfl rfl) ?_;simp only [zz];refine nR (.pointer (some ⟨p, 0, none⟩)) (gx_assign rfl rfl) ?_;simp only [zz];refine nR (.pointer (some ⟨x, 0, none⟩)) (gx_assign rfl rfl) ?_;simp only [zz]
  go_upto_region 2 with fail
  refine wp_region_lit ?_
  refine nR (.pointer (some ⟨x, 0, none⟩)) (exec_move rfl rfl) ?_;simp only [zz];refine nR (.bool false) (ptr_nilW rfl rfl rfl rfl) ?_;simp only [zz]
  go_upto_region 4 with fail
  refine wp_region_lit ?_
  refine nR (.pointer (some ⟨x, 0, none⟩)) (exec_move rfl rfl) ?_;simp only [zz]
  refine wpList_op rfl fun K9 HK9 => ?_
  go_wp2_with fail
  refine (Room_walk HL0.out.wb).mono ?_
  rintro e w2 ⟨rfl, hw⟩
  refine HK9.out _ _ ?_
  clear HK9
  try simp only [zz]
  obtain rfl := hw.symm
  rw [HRM.out]
  refine nR (.int .i64 4) (gx_assign rfl rfl) ?_;simp only [zz]
  go_upto_region 5 with fail
  refine wp_region_lit ?_
  refine nR (.pointer (some ⟨x, 0, none⟩)) (exec_move rfl rfl) ?_;simp only [zz];refine wpList_run (v := .slice (some ⟨w1.heap.size, 0, none⟩) 1 1) (w' := w1.alloc (.cells #[.int .u8 97] 5)) (wanted_none rfl) (wx_slice1 rfl rfl (build_b1 97 w1)) ?_;simp only [zz];refine wpList_run (v := .slice (some ⟨w1.heap.size, 0, none⟩) 1 1) (w' := w1.alloc (.cells #[.int .u8 97] 5 (1, 2))) (wanted_none rfl) (wx_conv rfl rfl (conv_b1 97 w1)) ?_;simp only [zz]
  have HBga := Lib.hid (lit_bs (W := w1) 97)
  have HTa := Lib.hid ((Turn.refl nowhere w1).alloc (.cells #[.int .u8 97] 5 (1, 2)))
  obtain ⟨ga, hg⟩ : ∃ g, g = w1.heap.size := ⟨_, rfl⟩
  rw [← hg] at HBga ⊢
  clear hg
  rw [show ((97 : UInt8).toNat : Int) = 97 from rfl] at HBga
  generalize w1.alloc (.cells #[.int .u8 97] 5 (1, 2)) = w3 at HBga HTa ⊢
  refine wpList_run (v := .slice (some ⟨w3.heap.size, 0, none⟩) 1 1) (w' := w3.alloc (.cells #[.int .u8 98] 5)) (wanted_none rfl) (wx_slice1 rfl rfl (build_b1 98 w3)) ?_;simp only [zz];refine wpList_run (v := .slice (some ⟨w3.heap.size, 0, none⟩) 1 1) (w' := w3.alloc (.cells #[.int .u8 98] 5 (1, 2))) (wanted_none rfl) (wx_conv rfl rfl (conv_b1 98 w3)) ?_;simp only [zz]
  have HBgb := Lib.hid (lit_bs (W := w3) 98)
  have HTb := Lib.hid ((Turn.refl nowhere w3).alloc (.cells #[.int .u8 98] 5 (1, 2)))
  obtain ⟨gb, hg⟩ : ∃ g, g = w3.heap.size := ⟨_, rfl⟩
  rw [← hg] at HBgb ⊢
  clear hg
  rw [show ((98 : UInt8).toNat : Int) = 98 from rfl] at HBgb
  generalize w3.alloc (.cells #[.int .u8 98] 5 (1, 2)) = w4 at HBgb HTb ⊢
  refine wpList_run (v := .slice (some ⟨w4.heap.size, 0, none⟩) 2 2) (w' := w4.alloc (.cells #[.slice (some ⟨ga, 0, none⟩) 1 1, .slice (some ⟨gb, 0, none⟩) 1 1] 38)) (wanted_none rfl) (wx_slice2 rfl rfl rfl (build_l2 ga gb w4)) ?_;simp only [zz]
  have hb := Blk.new w4 38 #[.slice (some ⟨ga, 0, none⟩) 1 1, .slice (some ⟨gb, 0, none⟩) 1 1]
  have ht := (Turn.refl nowhere w4).alloc (.cells #[.slice (some ⟨ga, 0, none⟩) 1 1, .slice (some ⟨gb, 0, none⟩) 1 1] 38)
  obtain ⟨gl, hg⟩ : ∃ g, g = w4.heap.size := ⟨_, rfl⟩
  rw [← hg] at hb ⊢
  clear hg
  generalize w4.alloc (.cells #[.slice (some ⟨ga, 0, none⟩) 1 1, .slice (some ⟨gb, 0, none⟩) 1 1] 38) = w5 at hb ht ⊢
  have HLS := Lib.hid (show Ls w5 (some ⟨gl, 0, none⟩) 2 [[97], [98]] from ⟨rfl, by decide, fun _ => ⟨gl, 0, rfl, fun i l hl => by
    match i, hl with
    | 0, hl =>
      obtain rfl := Option.some.inj hl
      exact ⟨some ⟨ga, 0, none⟩, 1, 1, by rw [Nat.zero_add, hb.cell]; rfl, bs_still (bs_still HBga.out HTb.out) ht, (fun e => by cases e), by decide⟩
    | 1, hl =>
      obtain rfl := Option.some.inj hl
      exact ⟨some ⟨gb, 0, none⟩, 1, 1, by rw [Nat.zero_add, hb.cell]; rfl, bs_still (HBgb.out) ht, (fun e => by cases e), by decide⟩
    | i + 2, hl => simp at hl⟩⟩)
  have HTc := Lib.hid ht
  clear hb ht
  have HT15 := Lib.hid ((HTa.out.trans HTb.out fun _ _ e => e).trans HTc.out fun _ _ e => e)
  have HL5 := Lib.hid (HL0.out.still HT15.out)
  have HT5 := Lib.hid (HT1.out.trans HT15.out fun _ _ e => e)
  have hap := HL5.out.append (cap := 2) (by have := HV0.out.2; omega) (by rw [HV0.out.1]; decide) (by decide) HLS.out
  clear HTa HTb HTc HBga HBgb HL0 HT1 HT15
  refine wpList_op (wanted_none rfl) fun K9 HK9 => ?_
  go_wp2_with fail
  refine hap.mono ?_
  clear hap
  rintro r w6 (⟨hl, _⟩ | ⟨_, hfl, _⟩ | ⟨_, ht, F1, s1, hF, _, _, _, hj, (⟨_, rfl, hfu, P, d1, vP1, gs1, hlg, hdn, hnw, _⟩ | ⟨hfz, _⟩)⟩)
  · exact absurd hl (by decide)
  · exact absurd hfl (HL5.out.lv.room (by decide) _)
  rotate_left
  · exact absurd HFU.out hfz
  refine HK9.out _ _ ?_
  clear HK9
  try simp only [zz]
  rw [show (v.first + ([] : List Wl.Rec).length) = 0 from by rw [HV0.out.1]; rfl]
  obtain ⟨v1, hv⟩ : ∃ v9, v9 = v.add P (Wl.cost [[97], [98]]) := ⟨_, rfl⟩
  have HV1 := Lib.hid (show v1.first = 0 ∧ v1.age ≤ 2 from by rw [hv]; exact HV0.out)
  rw [← hv] at hlg
  have HL1 := Lib.hid (show Lg w6 x p 0 F1 s1 _ d1 5 v1 vP1 vH [[[97], [98]]] gs1 from hlg)
  have HTw6 := Lib.hid (HT5.out.trans ht fun b hb e => by have := HNW.out b e; omega)
  have HNW1 := Lib.hid (show ∀ b, F1 b ∨ WalG x vP1 vH b → w.heap.size ≤ b from fun b hb => by
    have hz := HT5.out.size
    rcases hb with e | e
    · rcases hF b e with e | e
      · exact HNW.out b (.inl e)
      · omega
    · rcases hnw b e with e | e
      · exact HNW.out b (.inr e)
      · omega)
  have HFU1 := Lib.hid (show s1.fuse < 0 from by rw [hfu HFU.out]; exact HFU.out)
  have HDR1 := Lib.hid (HDR.out.but hj hlg.ds hlg.dry)
  have HDN1 := Lib.hid (hdn.trans HDN.out)
  clear ht hF hfu hlg hnw hv hj hdn
  refine nR (.tuple #[.int .i64 ((0 : Nat) : Int), .int .i64 0]) (exec_move rfl rfl) ?_;simp only [zz];refine nR (.int .i64 ((0 : Nat) : Int)) (ix_extract rfl rfl rfl) ?_;simp only [zz];refine nR (.int .i64 0) (ix_extract rfl rfl rfl) ?_;simp only [zz];refine nR (.int .i64 ((0 : Nat) : Int)) (gx_assign rfl rfl) ?_;simp only [zz];refine nR (.int .i64 0) (gx_assign rfl rfl) ?_;simp only [zz]
  go_upto_region 6 with fail
  refine wp_region_lit ?_
  refine nR (.pointer (some ⟨x, 0, none⟩)) (exec_move rfl rfl) ?_;simp only [zz]
  have hap := HL1.out.append (A := none) (n := 0) (cap := 0) (by have := HV1.out.2; omega) (by rw [HV1.out.1]; decide) (by decide) (ls_nil _ _)
  refine wpList_op (wanted_none rfl) fun K9 HK9 => ?_
  go_wp2_with fail
  refine hap.mono ?_
  clear hap
  rintro r w7 (⟨hl, _⟩ | ⟨_, hfl, _⟩ | ⟨_, ht, F2, s2, hF, _, _, _, hj, (⟨_, rfl, hfu, P, d2, vP2, gs2, hlg, hdn, hnw, _⟩ | ⟨hfz, _⟩)⟩)
  · exact absurd hl (by decide)
  · exact absurd hfl (HL1.out.lv.room (by decide) _)
  rotate_left
  · exact absurd HFU1.out hfz
  refine HK9.out _ _ ?_
  clear HK9
  try simp only [zz]
  rw [show (v1.first + ([[[97], [98]]] : List Wl.Rec).length) = 1 from by rw [HV1.out.1]; rfl]
  obtain ⟨v2, hv⟩ : ∃ v9, v9 = v1.add P (Wl.cost []) := ⟨_, rfl⟩
  have HV2 := Lib.hid (show v2.first = 0 ∧ v2.age ≤ 2 from by rw [hv]; exact HV1.out)
  rw [← hv] at hlg
  have HL2 := Lib.hid (show Lg w7 x p 0 F2 s2 _ d2 5 v2 vP2 vH [[[97], [98]], []] gs2 from hlg)
  have HTw7 := Lib.hid (HTw6.out.trans ht fun b hb e => by have := HNW1.out b e; omega)
  have HNW2 := Lib.hid (show ∀ b, F2 b ∨ WalG x vP2 vH b → w.heap.size ≤ b from fun b hb => by
    have hz := HTw6.out.size
    rcases hb with e | e
    · rcases hF b e with e | e
      · exact HNW1.out b (.inl e)
      · omega
    · rcases hnw b e with e | e
      · exact HNW1.out b (.inr e)
      · omega)
  have HFU2 := Lib.hid (show s2.fuse < 0 from by rw [hfu HFU1.out]; exact HFU1.out)
  have HDR2 := Lib.hid (HDR1.out.but hj hlg.ds hlg.dry)
  have HDN2 := Lib.hid (hdn.trans HDN1.out)
  clear ht hF hfu hlg hnw hv hj hdn
  refine nR (.tuple #[.int .i64 ((1 : Nat) : Int), .int .i64 0]) (exec_move rfl rfl) ?_;simp only [zz];refine nR (.int .i64 ((1 : Nat) : Int)) (ix_extract rfl rfl rfl) ?_;simp only [zz];refine nR (.int .i64 0) (ix_extract rfl rfl rfl) ?_;simp only [zz];refine nR (.int .i64 ((1 : Nat) : Int)) (gx_assign rfl rfl) ?_;simp only [zz];refine nR (.int .i64 0) (gx_assign rfl rfl) ?_;simp only [zz]
  go_upto_region 7 with fail
  refine wp_region_lit ?_
  refine nR (.pointer (some ⟨x, 0, none⟩)) (exec_move rfl rfl) ?_;simp only [zz]
  refine wpList_op (wanted_none rfl) fun K9 HK9 => ?_
  go_wp2_with fail
  refine (HL2.out.read (by rw [HV2.out.1]; decide) 0 (by decide)).mono ?_
  rintro r w8 ⟨ht, ⟨hbad, _⟩ | ⟨k9, l9, gr, hk9, hl9, rfl, hls, hgz, b0, hbz, hfs⟩⟩
  · exact absurd ⟨by rw [HV2.out.1]; decide, by rw [HV2.out.1]; decide⟩ hbad
  obtain rfl : k9 = 0 := by have := HV2.out.1; omega
  obtain rfl := Option.some.inj hl9
  refine HK9.out _ _ ?_
  clear HK9
  try simp only [zz]
  have HRD := Lib.hid (show Ls w8 (some ⟨gr, 0, none⟩) 2 [[97], [98]] from hls)
  have HTR := Lib.hid ht
  have HGZ := Lib.hid (And.intro hgz hbz)
  have HRF := Lib.hid (show Firsts w8 gr b0 2 2 [[97], [98]] from hfs)
  clear ht hls hk9 hl9 hgz hbz hfs
  refine nR (.tuple #[.slice (some ⟨gr, 0, none⟩) 2 2, .int .i64 0]) (exec_move rfl rfl) ?_;simp only [zz];refine nR (.slice (some ⟨gr, 0, none⟩) 2 2) (ix_extract rfl rfl rfl) ?_;simp only [zz];refine nR (.int .i64 0) (ix_extract rfl rfl rfl) ?_;simp only [zz];refine nR (.slice (some ⟨gr, 0, none⟩) 2 2) (gx_assign rfl rfl) ?_;simp only [zz];refine nR (.int .i64 0) (gx_assign rfl rfl) ?_;simp only [zz]
  have HL8 := Lib.hid (HL2.out.still HTR.out)
  have HT8 := Lib.hid (HTw7.out.trans HTR.out fun _ _ e => e)
  have hap2 : ∀ g, w7.heap.size ≤ g → ¬ (F2 g ∨ WalG x vP2 vH g) := fun g hg e => by
    rcases e with e | e
    · have := HL2.out.pt.lt e
      omega
    · have := HL2.out.glt e
      omega
  have HAP2 := Lib.hid (And.intro (hap2 gr HGZ.out.1) (hap2 b0 HGZ.out.2))
  clear hap2 HGZ
  go_upto_region 8 with fail
  refine wp_region_lit ?_
  refine nR (.pointer (some ⟨x, 0, none⟩)) (exec_move rfl rfl) ?_;simp only [zz]
  refine wpList_op (wanted_none rfl) fun K9 HK9 => ?_
  go_wp2_with fail
  refine (HL8.out.read (by rw [HV2.out.1]; decide) 2 (by decide)).mono ?_
  rintro r w9 ⟨ht, ⟨_, rfl⟩ | ⟨k9, l9, gr9, hk9, hl9, _⟩⟩
  rotate_left
  · have h1 := (List.getElem?_eq_some_iff.1 hl9).1
    have h2 := HV2.out.1
    simp only [List.length_cons, List.length_nil] at h1
    omega
  refine HK9.out _ _ ?_
  clear HK9
  try simp only [zz]
  refine nR (.tuple #[.slice none 0 0, .int .i64 1]) (exec_move rfl rfl) ?_;simp only [zz];refine nR (.slice none 0 0) (ix_extract rfl rfl rfl) ?_;simp only [zz];refine nR (.int .i64 1) (ix_extract rfl rfl rfl) ?_;simp only [zz];refine nR (.slice none 0 0) (gx_assign rfl rfl) ?_;simp only [zz];refine nR (.int .i64 1) (gx_assign rfl rfl) ?_;simp only [zz]
  have HRD9 := Lib.hid (HRF.out.still ht)
  have HL9 := Lib.hid (HL8.out.still ht)
  have HT9 := Lib.hid (HT8.out.trans ht fun _ _ e => e)
  clear ht HL8 HT8 HRD HRF HTR HL2 HTw7
  go_upto_region 9 with fail
  refine wp_region_lit ?_
  refine nR (.pointer (some ⟨x, 0, none⟩)) (exec_move rfl rfl) ?_;simp only [zz]
  refine wpList_op (wanted_none rfl) fun K9 HK9 => ?_
  go_wp2_with fail
  refine (HL9.out.cutw (by have := HV2.out.2; omega) (by rw [HV2.out.1]; decide) (by decide) 1 (by decide)).mono ?_
  rintro r w10 (⟨hbad, _⟩ | ⟨ht, k9, F3, s3, hk9, _, hF, _, _, _, hj, (⟨_, rfl, hfu, d3, vP3, hlg, hdn, hnw⟩ | ⟨hfz, _⟩)⟩)
  · exact absurd ⟨by rw [HV2.out.1]; decide, by rw [HV2.out.1]; decide⟩ hbad
  rotate_left
  · exact absurd HFU2.out hfz
  obtain rfl : k9 = 1 := by have := HV2.out.1; omega
  refine HK9.out _ _ ?_
  clear HK9
  try simp only [zz]
  obtain ⟨v3, hv⟩ : ∃ v9, v9 = v2.cut 1 := ⟨_, rfl⟩
  have HV3 := Lib.hid (show v3.first = 1 ∧ v3.age ≤ 3 from by rw [hv]; exact ⟨by show v2.first + 1 = 1; rw [HV2.out.1], by show v2.age + 1 ≤ 3; have := HV2.out.2; omega⟩)
  rw [← hv] at hlg
  have HL10 := Lib.hid (show Lg w10 x p 0 F3 s3 _ d3 5 v3 vP3 vH [[]] _ from hlg)
  have HT10 := Lib.hid (HT9.out.trans ht fun b hb e => by have := HNW2.out b e; omega)
  have HNW3 := Lib.hid (show ∀ b, F3 b ∨ WalG x vP3 vH b → w.heap.size ≤ b from fun b hb => by
    have hz := HT9.out.size
    rcases hb with e | e
    · rcases hF b e with e | e
      · exact HNW2.out b (.inl e)
      · omega
    · exact HNW2.out b (.inr (hnw b e)))
  have HFU3 := Lib.hid (show s3.fuse < 0 from by rw [hfu HFU2.out]; exact HFU2.out)
  have HRF10 := Lib.hid (HRD9.out.turn ht HAP2.out.1 HAP2.out.2)
  have HAP3 := Lib.hid (And.intro (apart2 HAP2.out.1 HRD9.out.lt.1 hF (fun b e => .inl (hnw b e))) (apart2 HAP2.out.2 HRD9.out.lt.2 hF (fun b e => .inl (hnw b e))))
  have HDR3 := Lib.hid (HDR2.out.but hj hlg.ds hlg.dry)
  have HDN3 := Lib.hid (hdn.trans HDN2.out)
  clear ht hF hfu hlg hnw hv hk9 hj hdn HRD9 HAP2 HL9 HT9
  refine nR (.int .i64 0) (gx_assign rfl rfl) ?_;simp only [zz]
  go_upto_region 10 with fail
  refine wp_region_lit ?_
  refine nR (.pointer (some ⟨x, 0, none⟩)) (exec_move rfl rfl) ?_;simp only [zz]
  refine wpList_op (wanted_none rfl) fun K9 HK9 => ?_
  go_wp2_with fail
  refine (HL10.out.read (by rw [HV3.out.1]; decide) 0 (by decide)).mono ?_
  rintro r w11 ⟨ht, ⟨_, rfl⟩ | ⟨k9, l9, gr9, hk9, hl9, _⟩⟩
  rotate_left
  · have h1 := (List.getElem?_eq_some_iff.1 hl9).1
    have h2 := HV3.out.1
    simp only [List.length_cons, List.length_nil] at h1
    omega
  refine HK9.out _ _ ?_
  clear HK9
  try simp only [zz]
  refine nR (.tuple #[.slice none 0 0, .int .i64 1]) (exec_move rfl rfl) ?_;simp only [zz];refine nR (.slice none 0 0) (ix_extract rfl rfl rfl) ?_;simp only [zz];refine nR (.int .i64 1) (ix_extract rfl rfl rfl) ?_;simp only [zz];refine nR (.slice none 0 0) (gx_assign rfl rfl) ?_;simp only [zz];refine nR (.int .i64 1) (gx_assign rfl rfl) ?_;simp only [zz]
  have HL11 := Lib.hid (HL10.out.still ht)
  have HT11 := Lib.hid (HT10.out.trans ht fun _ _ e => e)
  have HRF11 := Lib.hid (HRF10.out.still ht)
  clear ht HL10 HT10 HRF10
  go_upto_region 11 with fail
  refine wp_region_lit ?_
  refine nR (.pointer (some ⟨p, 0, none⟩)) (exec_move rfl rfl) ?_;simp only [zz]
  refine wpList_op rfl fun K9 HK9 => ?_
  go_wp2_with fail
  refine (HL11.out.fuse 0 (by decide)).mono ?_
  rintro e w12 ⟨rfl, ht, F4, hF4, hlg⟩
  refine HK9.out _ _ ?_
  clear HK9
  try simp only [zz]
  have HL12 := Lib.hid hlg
  have HT12 := Lib.hid (HT11.out.trans ht fun b hb e => by have := HNW3.out b (.inl e); omega)
  have HRF12 := Lib.hid (HRF11.out.turn ht (fun e => HAP3.out.1 (.inl e)) (fun e => HAP3.out.2 (.inl e)))
  have HAP4 := Lib.hid (And.intro (apart2 HAP3.out.1 HRF11.out.lt.1 hF4 (fun b e => .inl e)) (apart2 HAP3.out.2 HRF11.out.lt.2 hF4 (fun b e => .inl e)))
  have HNW4 := Lib.hid (show ∀ b, F4 b ∨ WalG x vP3 vH b → w.heap.size ≤ b from fun b hb => by
    have hz := HT11.out.size
    rcases hb with e | e
    · rcases hF4 b e with e | e
      · exact HNW3.out b (.inl e)
      · omega
    · exact HNW3.out b (.inr e))
  have HD3 := Lib.hid (HL11.out.ds)
  clear ht hF4 hlg HL11 HT11 HRF11 HAP3 HNW3
  go_upto_region 12 with fail
  refine wp_region_lit ?_
  refine nR (.pointer (some ⟨x, 0, none⟩)) (exec_move rfl rfl) ?_;simp only [zz];refine wpList_run (v := .slice (some ⟨w12.heap.size, 0, none⟩) 1 1) (w' := w12.alloc (.cells #[.int .u8 99] 5)) (wanted_none rfl) (wx_slice1 rfl rfl (build_b1 99 w12)) ?_;simp only [zz];refine wpList_run (v := .slice (some ⟨w12.heap.size, 0, none⟩) 1 1) (w' := w12.alloc (.cells #[.int .u8 99] 5 (1, 2))) (wanted_none rfl) (wx_conv rfl rfl (conv_b1 99 w12)) ?_;simp only [zz]
  have HBgc := Lib.hid (lit_bs (W := w12) 99)
  have HTd := Lib.hid ((Turn.refl nowhere w12).alloc (.cells #[.int .u8 99] 5 (1, 2)))
  obtain ⟨gc, hg⟩ : ∃ g, g = w12.heap.size := ⟨_, rfl⟩
  rw [← hg] at HBgc ⊢
  clear hg
  rw [show ((99 : UInt8).toNat : Int) = 99 from rfl] at HBgc
  generalize w12.alloc (.cells #[.int .u8 99] 5 (1, 2)) = w13 at HBgc HTd ⊢
  refine wpList_run (v := .slice (some ⟨w13.heap.size, 0, none⟩) 1 1) (w' := w13.alloc (.cells #[.slice (some ⟨gc, 0, none⟩) 1 1] 38)) (wanted_none rfl) (wx_slice1 rfl rfl (build_l1 gc w13)) ?_;simp only [zz]
  have hb := Blk.new w13 38 #[.slice (some ⟨gc, 0, none⟩) 1 1]
  have ht := (Turn.refl nowhere w13).alloc (.cells #[.slice (some ⟨gc, 0, none⟩) 1 1] 38)
  obtain ⟨gk, hg⟩ : ∃ g, g = w13.heap.size := ⟨_, rfl⟩
  rw [← hg] at hb ⊢
  clear hg
  generalize w13.alloc (.cells #[.slice (some ⟨gc, 0, none⟩) 1 1] 38) = w14 at hb ht ⊢
  have HLS := Lib.hid (show Ls w14 (some ⟨gk, 0, none⟩) 1 [[99]] from ⟨rfl, by decide, fun _ => ⟨gk, 0, rfl, fun i l hl => by
    match i, hl with
    | 0, hl =>
      obtain rfl := Option.some.inj hl
      exact ⟨some ⟨gc, 0, none⟩, 1, 1, by rw [Nat.zero_add, hb.cell]; rfl, bs_still (HBgc.out) ht, (fun e => by cases e), by decide⟩
    | i + 1, hl => simp at hl⟩⟩)
  have HTe := Lib.hid ht
  clear hb ht
  have HT1e := Lib.hid (HTd.out.trans HTe.out fun _ _ e => e)
  have HL14 := Lib.hid (HL12.out.still HT1e.out)
  have HT14 := Lib.hid (HT12.out.trans HT1e.out fun _ _ e => e)
  have HRF14 := Lib.hid (HRF12.out.still HT1e.out)
  have hap := HL14.out.append (cap := 1) (by have := HV3.out.2; omega) (by rw [HV3.out.1]; decide) (by decide) HLS.out
  clear HTd HTe HBgc HL12 HT12 HT1e HRF12
  refine wpList_op (wanted_none rfl) fun K9 HK9 => ?_
  go_wp2_with fail
  refine hap.mono ?_
  clear hap
  rintro r w15 (⟨hl, _⟩ | ⟨_, hfl, _⟩ | ⟨_, ht, F5, s5, hF5, hp5, htb5, htf5, hj5, (⟨hfz, _⟩ | ⟨_, rfl, hon5, _, hds5⟩)⟩)
  · exact absurd hl (by decide)
  · exact absurd hfl (HL14.out.lv.room (by decide) _)
  · exact absurd rfl hfz
  refine HK9.out _ _ ?_
  clear HK9
  try simp only [zz]
  have HDS5 := Lib.hid (show s5.ds = s3.ds from hds5 rfl)
  have HP5 := Lib.hid hp5
  have HTB5 := Lib.hid htb5
  have HTF5 := Lib.hid htf5
  have HT15 := Lib.hid (HT14.out.trans ht fun b hb e => by have := HNW4.out b e; omega)
  have HRF15 := Lib.hid (HRF14.out.turn ht HAP4.out.1 HAP4.out.2)
  have HNF5 := Lib.hid (show ∀ b, F5 b → w.heap.size ≤ b from fun b hb => by
    have hz := HT14.out.size
    rcases hF5 b hb with e | e
    · exact HNW4.out b (.inl e)
    · omega)
  have HAP5 := Lib.hid (show ¬ F5 gr ∧ ¬ F5 b0 from ⟨fun e => apart2 HAP4.out.1 HRF14.out.lt.1 hF5 (G' := WalG x vP3 vH) (fun b e => .inl e) (.inl e), fun e => apart2 HAP4.out.2 HRF14.out.lt.2 hF5 (G' := WalG x vP3 vH) (fun b e => .inl e) (.inl e)⟩)
  have HLV := Lib.hid HL14.out.lv
  have HDY := Lib.hid HL14.out.dry
  clear ht hF5 hp5 htb5 htf5 hj5 hon5 hds5 HT14 HRF14 HAP4 HNW4 HL14
  refine nR (.tuple #[.int .i64 0, .int .i64 2]) (exec_move rfl rfl) ?_;simp only [zz];refine nR (.int .i64 0) (ix_extract rfl rfl rfl) ?_;simp only [zz];refine nR (.int .i64 2) (ix_extract rfl rfl rfl) ?_;simp only [zz];refine nR (.int .i64 0) (gx_assign rfl rfl) ?_;simp only [zz];refine nR (.int .i64 2) (gx_assign rfl rfl) ?_;simp only [zz]
  go_upto_region 13 with fail
  refine wp_region_lit ?_
  refine nR (.pointer (some ⟨p, 0, none⟩)) (exec_move rfl rfl) ?_;simp only [zz]
  refine wpList_op rfl fun K9 HK9 => ?_
  go_wp2_with fail
  refine (boot_ok HP5.out none 0 0 [] ⟨rfl, by decide, fun h => absurd h (by decide)⟩ (by decide)).mono ?_
  rintro e w16 ⟨rfl, F6, hp6, ht, hF6⟩
  refine HK9.out _ _ ?_
  clear HK9
  try simp only [zz]
  have HDS6 := Lib.hid (show (s5.boot []).ds = s3.ds from (Dry.boot (by rw [HDS5.out]; exact HDR3.out) []).trans HDS5.out)
  have HP6 := Lib.hid hp6
  have HTB6 := Lib.hid (tab_turn HTB5.out ht HTF5.out)
  have HTF6 := Lib.hid (show ¬ F6 0 from fun e => by
    rcases hF6 _ e with e | e
    · exact HTF5.out e
    · have := tab_lt HTB5.out
      omega)
  have HT16 := Lib.hid (HT15.out.trans ht fun b hb e => by have := HNF5.out b e; omega)
  have HRF16 := Lib.hid (HRF15.out.turn ht HAP5.out.1 HAP5.out.2)
  have HNF6 := Lib.hid (show ∀ b, F6 b → w.heap.size ≤ b from fun b hb => by
    have hz := HT15.out.size
    rcases hF6 b hb with e | e
    · exact HNF5.out b e
    · omega)
  have HAP6 := Lib.hid (show ¬ F6 gr ∧ ¬ F6 b0 from ⟨fun e => by
    rcases hF6 _ e with e | e
    · exact HAP5.out.1 e
    · have := HRF15.out.lt.1
      omega, fun e => by
    rcases hF6 _ e with e | e
    · exact HAP5.out.2 e
    · have := HRF15.out.lt.2
      omega⟩)
  have HD6 := Lib.hid (show (s5.boot []).ds[0]? = some d3 from by rw [HDS6.out]; exact HD3.out)
  clear ht hp6 hF6 HT15 HRF15 HNF5 HAP5 HP5 HTB5 HTF5 HDS5
  go_upto_region 14 with fail
  refine wp_region_lit ?_
  refine nR (.pointer (some ⟨p, 0, none⟩)) (exec_move rfl rfl) ?_;simp only [zz]
  have hop := open_ok (i := 0) (f := 1) (L := [[]]) (S := 5) (d := d3) HP6.out HTB6.out HTF6.out HD6.out rfl HDY.out (by
    rw [segsP_at HD6.out, HDN3.out]
    decide) (by decide) (by have h := HLV.out.on.disk; rwa [HV3.out.1] at h) (by rw [HLV.out.on.gr]; have := HV3.out.2; omega) (by decide) (by decide)
  refine wpList_op (wanted_none rfl) fun K9 HK9 => ?_
  go_wp2_with fail
  refine hop.mono ?_
  clear hop
  rintro e w17 ⟨ht, F7, s7, hF7, _, _, _, _, hc⟩
  rcases hc with ⟨_, _, x7, d7, v7, vP7, vH7, gs7, rfl, hlg, _, hvf, _, hnw⟩ | ⟨hfz, _⟩
  rotate_left
  · exact absurd (by show (-1 : Int) < 0; decide) hfz
  refine HK9.out _ _ ?_
  clear HK9
  try simp only [zz]
  have HL17 := Lib.hid hlg
  have HV7 := Lib.hid (show v7.first = 1 from hvf)
  have HT17 := Lib.hid (HT16.out.trans ht fun b hb e => by have := HNF6.out b e; omega)
  have HRF17 := Lib.hid (HRF16.out.turn ht HAP6.out.1 HAP6.out.2)
  clear ht hF7 hlg hvf hnw HT16 HRF16 HNF6 HAP6
  refine nR (.tuple #[.pointer (some ⟨x7, 0, none⟩), .int .i64 0]) (exec_move rfl rfl) ?_;simp only [zz];refine nR (.pointer (some ⟨x7, 0, none⟩)) (ix_extract rfl rfl rfl) ?_;simp only [zz];refine nR (.int .i64 0) (ix_extract rfl rfl rfl) ?_;simp only [zz];refine nR (.pointer (some ⟨x7, 0, none⟩)) (gx_assign rfl rfl) ?_;simp only [zz];refine nR (.int .i64 0) (gx_assign rfl rfl) ?_;simp only [zz]
  go_upto_region 15 with fail
  refine wp_region_lit ?_
  refine nR (.pointer (some ⟨x7, 0, none⟩)) (exec_move rfl rfl) ?_;simp only [zz];refine nR (.bool false) (ptr_nilW rfl rfl rfl rfl) ?_;simp only [zz]
  obtain ⟨o1, o2, c1, q1, c2, q2⟩ := HRF17.out.two
  go_upto_region 17 with fail
  refine wp_region_lit ?_
  refine nR (.int .i64 4) (exec_move rfl rfl) ?_;simp only [zz];refine nR (.bool true) (ix_eql rfl rfl rfl (by decide)) ?_;simp only [zz];refine nR (.bool true) (exec_move rfl rfl) ?_;simp only [zz];refine wpList_run (v := .int .i64 ((0 : Nat) : Int)) rfl (exec_move rfl rfl) ?_;simp only [zz];refine wpList_run (v := .bool true) rfl (ix_eql rfl rfl rfl (by decide)) ?_;simp only [zz];refine nR (.bool true) (ix_pickT rfl rfl rfl) ?_;simp only [zz];refine nR (.bool true) (exec_move rfl rfl) ?_;simp only [zz];refine wpList_run (v := .int .i64 ((1 : Nat) : Int)) rfl (exec_move rfl rfl) ?_;simp only [zz];refine wpList_run (v := .bool true) rfl (ix_eql rfl rfl rfl (by decide)) ?_;simp only [zz];refine nR (.bool true) (ix_pickT rfl rfl rfl) ?_;simp only [zz];refine nR (.bool true) (exec_move rfl rfl) ?_;simp only [zz];refine wpList_run (v := .int .i64 0) rfl (exec_move rfl rfl) ?_;simp only [zz];refine wpList_run (v := .bool true) rfl (ix_eql rfl rfl rfl (by decide)) ?_;simp only [zz];refine nR (.bool true) (ix_pickT rfl rfl rfl) ?_;simp only [zz];refine nR (.bool true) (exec_move rfl rfl) ?_;simp only [zz];refine wpList_run (v := .int .i64 0) rfl (exec_move rfl rfl) ?_;simp only [zz];refine wpList_run (v := .bool true) rfl (ix_eql rfl rfl rfl (by decide)) ?_;simp only [zz];refine nR (.bool true) (ix_pickT rfl rfl rfl) ?_;simp only [zz];refine nR (.bool true) (exec_move rfl rfl) ?_;simp only [zz];refine wpList_run (v := .int .i64 0) rfl (exec_move rfl rfl) ?_;simp only [zz];refine wpList_run (v := .bool true) rfl (ix_eql rfl rfl rfl (by decide)) ?_;simp only [zz];refine nR (.bool true) (ix_pickT rfl rfl rfl) ?_;simp only [zz];refine nR (.bool true) (exec_move rfl rfl) ?_;simp only [zz];refine wpList_run (v := .slice (some ⟨gr, 0, none⟩) 2 2) rfl (exec_move rfl rfl) ?_;simp only [zz];refine wpList_run (v := .int .i64 2) rfl (gx_len rfl rfl Tryd.underlying33) ?_;simp only [zz];refine wpList_run (v := .bool true) rfl (ix_eql rfl rfl rfl (by decide)) ?_;simp only [zz];refine nR (.bool true) (ix_pickT rfl rfl rfl) ?_;simp only [zz];refine nR (.bool true) (exec_move rfl rfl) ?_;simp only [zz];refine wpList_run (v := .slice (some ⟨gr, 0, none⟩) 2 2) rfl (exec_move rfl rfl) ?_;simp only [zz];refine wpList_run (v := .pointer (some ⟨gr, 0, none⟩)) rfl (gx_iaddr (i := 0) (sz := 1) rfl rfl rfl Tryd.underlying33 size_sl (by decide) rfl) ?_;simp only [zz];refine wpList_run (v := .slice (some ⟨b0, o1, none⟩) 1 1) rfl (exec_load1 rfl rfl (by kernel_rfl) c1) ?_;simp only [zz];refine wpList_run (v := strV [97]) rfl (exec_strBs rfl rfl q1) ?_;simp only [zz];refine wpList_run (v := .bool true) rfl (exec_seql (l := [97]) (m := [97]) rfl rfl rfl) ?_;simp only [zz];refine nR (.bool true) (ix_pickT rfl rfl rfl) ?_;simp only [zz];refine nR (.bool true) (exec_move rfl rfl) ?_;simp only [zz];refine wpList_run (v := .slice (some ⟨gr, 0, none⟩) 2 2) rfl (exec_move rfl rfl) ?_;simp only [zz];refine wpList_run (v := .pointer (some ⟨gr, 1, none⟩)) rfl (gx_iaddr (i := 1) (sz := 1) rfl rfl rfl Tryd.underlying33 size_sl (by decide) rfl) ?_;simp only [zz];refine wpList_run (v := .slice (some ⟨b0, o2, none⟩) 1 1) rfl (exec_load1 rfl rfl (by kernel_rfl) c2) ?_;simp only [zz];refine wpList_run (v := strV [98]) rfl (exec_strBs rfl rfl q2) ?_;simp only [zz];refine wpList_run (v := .bool true) rfl (exec_seql (l := [98]) (m := [98]) rfl rfl rfl) ?_;simp only [zz];refine nR (.bool true) (ix_pickT rfl rfl rfl) ?_;simp only [zz];refine nR (.bool true) (exec_move rfl rfl) ?_;simp only [zz];refine wpList_run (v := .int .i64 1) rfl (exec_move rfl rfl) ?_;simp only [zz];refine wpList_run (v := .bool true) rfl (ix_eql rfl rfl rfl (by decide)) ?_;simp only [zz];refine nR (.bool true) (ix_pickT rfl rfl rfl) ?_;simp only [zz];refine nR (.bool true) (exec_move rfl rfl) ?_;simp only [zz];refine wpList_run (v := .int .i64 0) rfl (exec_move rfl rfl) ?_;simp only [zz];refine wpList_run (v := .bool true) rfl (ix_eql rfl rfl rfl (by decide)) ?_;simp only [zz];refine nR (.bool true) (ix_pickT rfl rfl rfl) ?_;simp only [zz];refine nR (.bool true) (exec_move rfl rfl) ?_;simp only [zz];refine wpList_run (v := .int .i64 1) rfl (exec_move rfl rfl) ?_;simp only [zz];refine wpList_run (v := .bool true) rfl (ix_eql rfl rfl rfl (by decide)) ?_;simp only [zz];refine nR (.bool true) (ix_pickT rfl rfl rfl) ?_;simp only [zz];refine nR (.bool true) (exec_move rfl rfl) ?_;simp only [zz];refine wpList_run (v := .int .i64 2) rfl (exec_move rfl rfl) ?_;simp only [zz];refine wpList_run (v := .bool true) rfl (ix_eql rfl rfl rfl (by decide)) ?_;simp only [zz];refine nR (.bool true) (ix_pickT rfl rfl rfl) ?_;simp only [zz];refine nR (.bool true) (exec_move rfl rfl) ?_;simp only [zz];refine wpList_run (v := .int .i64 0) rfl (exec_move rfl rfl) ?_;simp only [zz];refine wpList_run (v := .bool true) rfl (ix_eql rfl rfl rfl (by decide)) ?_;simp only [zz];refine nR (.bool true) (ix_pickT rfl rfl rfl) ?_;simp only [zz];refine nR (.bool true) (exec_move rfl rfl) ?_;simp only [zz];refine wpList_run (v := .pointer (some ⟨x7, 0, none⟩)) rfl (exec_move rfl rfl) ?_;simp only [zz]
  refine wpList_op rfl fun K9 HK9 => ?_
  go_wp2_with fail
  refine (First_walk HL17.out.wb).mono ?_
  rintro e w18 ⟨rfl, hw⟩
  refine HK9.out _ _ ?_
  clear HK9
  try simp only [zz]
  obtain rfl := hw.symm
  rw [HV7.out]
  refine wpList_run (v := .bool true) rfl (ix_eql rfl rfl rfl (by decide)) ?_;simp only [zz];refine nR (.bool true) (ix_pickT rfl rfl rfl) ?_;simp only [zz];refine nR (.bool true) (exec_move rfl rfl) ?_;simp only [zz];refine wpList_run (v := .pointer (some ⟨x7, 0, none⟩)) rfl (exec_move rfl rfl) ?_;simp only [zz]
  refine wpList_op rfl fun K9 HK9 => ?_
  go_wp2_with fail
  refine (Next_walk HL17.out.wb (by rw [HV7.out]; decide)).mono ?_
  rintro e w19 ⟨rfl, ht⟩
  refine HK9.out _ _ ?_
  clear HK9
  try simp only [zz]
  have HT19 := Lib.hid (HT17.out.trans ht fun _ _ e => e)
  rw [show ((v7.first + v7.places.length : Nat) : Int) = 2 from by rw [HV7.out, HL17.out.lv.pn]; rfl]
  refine wpList_run (v := .bool true) rfl (ix_eql rfl rfl rfl (by decide)) ?_;simp only [zz];refine nR (.bool true) (ix_pickT rfl rfl rfl) ?_;simp only [zz];refine nR (.bool true) (gx_assign rfl rfl) ?_;simp only [zz]
  go_wp2_with fail
  go_ret
  exact ⟨rfl, HT19.out⟩
end Go.Proofs.YtelipeoilcepbaaDoor
