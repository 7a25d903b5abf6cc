/-
  Texts in one file: WlV WlW. Conditions: the tables and the errors read as the program's text lays them.
-/
import Derived.Test.YtelipeoilcepbaaDoorWp0
import Derived.Test.YtelipeoilcepbaaDoorWp19
namespace Go.Proofs.YtelipeoilcepbaaDoor
open Go.RowKit
open Wl (B8)
set_option linter.unusedVariables false
set_option linter.unusedSimpArgs false
set_option maxRecDepth 20000
theorem Goes2.behind {w w1 w' : World} {p : Nat} {F : Nat → Prop} {s' : AP} {K' : Nat} (ht : Turn nowhere w w1) (hg : Goes2 w1 p F w' s' K') : Goes2 w p F w' s' K' := by
  obtain ⟨F', h1, h2, h3⟩ := hg
  exact ⟨F', h1, (ht.mono fun _ _ e => e.elim).trans h2 fun _ _ e => e, fun k hk => (h3 k hk).imp id fun e => Nat.le_trans ht.size e⟩
theorem Goes2.turned {w w' : World} {p : Nat} {F : Nat → Prop} {s' : AP} {K' : Nat} (hg : Goes2 w p F w' s' K') : Turn F w w' := by
  obtain ⟨F', h1, h2, h3⟩ := hg
  exact h2
theorem build_st2 (a b : Int) (W : World) : (Instr.build 67 #[(0, .int .i64 a), (1, .int .i64 b)]).run Tryd.prog W = .ok (.agg #[.int .i64 a, .int .i64 b, .int .i64 0, .int .i64 0]) W := by kernel_rfl
set_option maxRecDepth 20000 in
set_option maxHeartbeats 4000000 in
theorem layHeader_walk {w : World} {p : Nat} {F : Nat → Prop} {s : AP} {K : Nat} (h : PlantAt w p F s K) (htab : Tab w) (i : Nat) (d : AD) (hd : s.ds[i]? = some d) (q a f : Nat) (b : Bool) (hq : ((q + 1 : Nat) : Int) ≤ d.n) (ha : a ≤ 9223372036854775807) (hf : f ≤ 9223372036854775807) (hK : K + 2 < 1099511627775) :
    Calls Tryd.prog 48 #[.agg (dskV p i), .agg (hdA q a f b)] w fun r w' => ∃ e s', r = .returned (.int .i64 e) ∧ WLaid (Wl.lay (dkD d) q 1 (Wl.hst Crc.sumN a f) Wl.z40) i d s e s' ∧ Goes2 w p F w' s' (K + 2) := by
  have HPL := Lib.hid h
  have HTAB := Lib.hid htab
  have HD := Lib.hid hd
  have HQ := Lib.hid hq
  clear h htab hd hq
  go_enter Tryd.func48, Tryd.ntmps48
  go_upto_region 0 with fail
  refine wp_region_lit ?_
  refine wpList_run (v := .pointer (some ⟨(w).heap.size, 0, none⟩)) (w' := (w).alloc (.cells (dskV p i) 60)) (wanted_none rfl) (gx_box rfl rfl (box_dskV p i _)) ?_;simp only [zz];refine wpList_run (v := .pointer (some ⟨((w).alloc (.cells (dskV p i) 60)).heap.size, 0, none⟩)) (w' := ((w).alloc (.cells (dskV p i) 60)).alloc (.cells (hdA q a f b) 62)) (wanted_none rfl) (gx_box rfl rfl (box_hdr q a f b _)) ?_;simp only [zz];refine nR (.int .i64 0) (gx_assign rfl rfl) ?_;simp only [zz]
  have hb_k := (Blk.new (w) 60 (dskV p i)).alloc (.cells (hdA q a f b) 62)
  have hb_m := Blk.new ((w).alloc (.cells (dskV p i) 60)) 62 (hdA q a f b)
  have ht_ := ((Turn.refl nowhere (w)).alloc (.cells (dskV p i) 60)).alloc (.cells (hdA q a f b) 62)
  obtain ⟨n0_, hn0_⟩ : ∃ n, n = (w).heap.size := ⟨_, rfl⟩
  have hz_k : (w).heap.size = n0_ + 0 := by rw [hn0_]; simp
  have hz_m : ((w).alloc (.cells (dskV p i) 60)).heap.size = n0_ + 1 := by rw [hn0_]; simp
  obtain ⟨m, hg_⟩ : ∃ g, g = ((w).alloc (.cells (dskV p i) 60)).heap.size := ⟨_, rfl⟩
  rw [← hg_] at hb_m hz_m ⊢
  clear hg_
  obtain ⟨k, hg_⟩ : ∃ g, g = (w).heap.size := ⟨_, rfl⟩
  rw [← hg_] at hb_k hz_k ⊢
  clear hg_
  generalize ((w).alloc (.cells (dskV p i) 60)).alloc (.cells (hdA q a f b) 62) = w1 at *
  have HT1 := Lib.hid ht_
  clear ht_
  have HBk := Lib.hid hb_k
  have HLk := Lib.hid (show (w).heap.size ≤ k from by omega)
  clear hb_k
  have HBm := Lib.hid hb_m
  have HLm := Lib.hid (show (w).heap.size ≤ m from by omega)
  clear hb_m
  have HNkm := Lib.hid (show k ≠ m from by omega)
  clear hn0_ hz_k hz_m
  clear n0_
  go_upto_region 1 with fail
  refine wp_region_alw (fun W => Blk W k 60 (dskV p i) ∧ Blk W m 62 (hdA q a f b)) (by kernel_rfl) ?_
  have hS0 : (fun W => Blk W k 60 (dskV p i) ∧ Blk W m 62 (hdA q a f b)) w1.drew := ⟨HBk.out.drew, HBm.out.drew⟩
  have HD1 := Lib.hid ((Turn.refl nowhere w1).drew)
  generalize w1.drew = wd at *
  refine alw_take (i := 0) (v := .agg (dskV p i)) rfl (by kernel_rfl) (by kernel_rfl) (fun _ _ _ h => h) (.inl ⟨by rfl, fun W hW => gx_loads rfl rfl (blk_range hW.1) Tryd.underlying60 rfl (by rw [size_dsk]; rfl)⟩) hS0 ?_
  simp only [zz]
  refine alw_take (i := 1) (v := .pointer (some ⟨m, 0, none⟩)) rfl (by kernel_rfl) (by kernel_rfl) (fun _ _ _ h => h) (.inl ⟨by rfl, fun W hW => exec_field (off := 0) (d := 0) rfl rfl (by kernel_rfl)⟩) hS0 ?_
  simp only [zz]
  refine alw_take (i := 2) (v := .int .i64 (q : Int)) rfl (by kernel_rfl) (by kernel_rfl) (fun _ _ _ h => h) (.inl ⟨by rfl, fun W hW => exec_load1 rfl rfl (by kernel_rfl) (hW.2.cell 0)⟩) hS0 ?_
  simp only [zz]
  refine alw_take (i := 3) (v := .pointer (some ⟨m, 1, none⟩)) rfl (by kernel_rfl) (by kernel_rfl) (fun _ _ _ h => h) (.inl ⟨by rfl, fun W hW => exec_field (off := 0) (d := 1) rfl rfl (by kernel_rfl)⟩) hS0 ?_
  simp only [zz]
  refine alw_take (i := 4) (v := .int .i64 (a : Int)) rfl (by kernel_rfl) (by kernel_rfl) (fun _ _ _ h => h) (.inl ⟨by rfl, fun W hW => exec_load1 rfl rfl (by kernel_rfl) (hW.2.cell 1)⟩) hS0 ?_
  simp only [zz]
  refine alw_take (i := 5) (v := .pointer (some ⟨m, 2, none⟩)) rfl (by kernel_rfl) (by kernel_rfl) (fun _ _ _ h => h) (.inl ⟨by rfl, fun W hW => exec_field (off := 0) (d := 2) rfl rfl (by kernel_rfl)⟩) hS0 ?_
  simp only [zz]
  refine alw_take (i := 6) (v := .int .i64 (f : Int)) rfl (by kernel_rfl) (by kernel_rfl) (fun _ _ _ h => h) (.inl ⟨by rfl, fun W hW => exec_load1 rfl rfl (by kernel_rfl) (hW.2.cell 2)⟩) hS0 ?_
  simp only [zz]
  refine alw_take (i := 7) (v := .agg (stA ⟨a, f, 0, 0⟩)) rfl (by kernel_rfl) (by kernel_rfl) (fun _ _ _ h => h) (.inl ⟨by rfl, fun W hW => gx_build2 rfl rfl rfl (build_st2 _ _ _)⟩) hS0 ?_
  simp only [zz]
  obtain ⟨j0, hj0, hjz, hj1, hj2⟩ := info_parts byteInfo
  have hmk := run_makeSlice (P := Tryd.prog) wd 38 5 j0 _ Tryd.underlying38 hj0 hjz .i64 .i64 (40 : Int) (40 : Int) (by omega) (by omega) (by rw [hj1]; omega) (by rw [hj2]; omega) (by omega)
  rw [hj1, show (40 : Int).toNat = 40 from rfl, Nat.mul_one, madeBytes] at hmk
  have HMK := Lib.hid hmk
  have ha_ := (Turn.refl nowhere wd).alloc (.cells (byteCells (List.replicate 40 0)) 5)
  have hb_ := Blk.new wd 5 (byteCells (List.replicate 40 0))
  clear hmk hj0 hjz hj1 hj2
  refine alw_step (i := 8) (by kernel_rfl) rfl rfl ?_
  intro K1 HK1
  refine wp_run (v := .slice (some ⟨wd.heap.size, 0, none⟩) 40 40) (w' := wd.alloc (.cells (byteCells (List.replicate 40 0)) 5)) (gx_make rfl rfl rfl HMK.out) ?_
  refine HK1.out _ _ ⟨⟨hS0.1.turn ha_ fun e => e, hS0.2.turn ha_ fun e => e⟩, ?_⟩
  clear HK1
  try simp only [zz]
  have hS1 : Blk (wd.alloc (.cells (byteCells (List.replicate 40 0)) 5)) k 60 (dskV p i) ∧ Blk (wd.alloc (.cells (byteCells (List.replicate 40 0)) 5)) m 62 (hdA q a f b) := ⟨hS0.1.turn ha_ fun e => e, hS0.2.turn ha_ fun e => e⟩
  obtain ⟨g, hg⟩ : ∃ g, g = wd.heap.size := ⟨_, rfl⟩
  rw [← hg] at hb_ ⊢
  have HGF := Lib.hid (show ¬ F g from fun e => by have := HPL.out.lt e; have := HT1.out.size; have := HD1.out.size; omega)
  clear hg HMK hS0
  generalize wd.alloc (.cells (byteCells (List.replicate 40 0)) 5) = w3 at *
  have HT3 := Lib.hid ((HT1.out.trans HD1.out fun _ _ e => e).trans ha_ fun _ _ e => e)
  have HB3 := Lib.hid (show Bs w3 (some ⟨g, 0, none⟩) 40 Wl.z40 from by
    have := blk_bs hb_ (off := 0) (k := 40) (by simp) (by decide)
    rwa [List.drop_zero, List.take_of_length_le (by simp)] at this)
  have HKF := Lib.hid (show ¬ F k ∧ ¬ F m from ⟨fun e => by have := HPL.out.lt e; have := HLk.out; omega, fun e => by have := HPL.out.lt e; have := HLm.out; omega⟩)
  clear ha_ hb_ HT1 HD1
  refine alw_step (i := 9) (by kernel_rfl) rfl rfl ?_
  intro K1 HK1
  go_wp2_with fail
  refine (lay_walk (HPL.out.turn HT3.out fun _ _ e => e) (tab_still HTAB.out HT3.out) i d HD.out q 1 HQ.out (by omega) (by omega) ⟨a, f, 0, 0⟩ ha hf (by show 0 ≤ 9223372036854775807; decide) (some ⟨g, 0, none⟩) 40 Wl.z40 HB3.out (by omega) (fun b off e => by injection e with e; injection e with e1 e2; subst e1; exact HGF.out) (by omega)).mono ?_
  rintro e w4 ⟨e4, s4, rfl, hl, hgo⟩
  have hS2 : Blk w4 k 60 (dskV p i) ∧ Blk w4 m 62 (hdA q a f b) := ⟨hS1.1.turn hgo.turned HKF.out.1, hS1.2.turn hgo.turned HKF.out.2⟩
  have HL := Lib.hid hl
  have HGO := Lib.hid (Goes2.behind HT3.out hgo)
  clear hl hgo
  refine HK1.out _ _ ⟨hS2, ?_⟩
  clear HK1 hS1
  try simp only [zz]
  refine alw_take (i := 10) (v := .int .i64 e4) rfl (by kernel_rfl) (by kernel_rfl) (fun _ _ _ h => h) (.inl ⟨by rfl, fun W hW => gx_assign rfl rfl⟩) hS2 ?_
  simp only [zz]
  refine alw_done rfl ?_
  refine NoPanic.normal ?_
  clear hS2
  try simp only [zz]
  go_wp2_with fail
  go_ret
  first
  | exact ⟨e4, s4, rfl, HL.out, HGO.out⟩
  | exact ⟨e4, rfl, s4, HL.out, HGO.out⟩
end Go.Proofs.YtelipeoilcepbaaDoor
namespace Go.Proofs.YtelipeoilcepbaaDoor
open Go.RowKit
open Wl (B8)
set_option linter.unusedVariables false
set_option linter.unusedSimpArgs false
set_option maxRecDepth 20000
def z64 : B8 := List.replicate 64 0
def erD (D : Wl.Disk) (P j : Nat) : Wl.Disk := fun q => if P ≤ q ∧ q < P + j then z64 else D q
theorem erD_zero (D : Wl.Disk) (P : Nat) : erD D P 0 = D := by
  funext q; unfold erD; rw [if_neg (by omega)]
theorem erD_succ (D : Wl.Disk) (P j : Nat) : (fun k => if k = P + j then z64 else erD D P j k) = erD D P (j + 1) := by
  funext q
  unfold erD
  by_cases h : q = P + j
  · rw [if_pos h, if_pos (by omega)]
  · rw [if_neg h]
    by_cases h2 : P ≤ q ∧ q < P + j
    · rw [if_pos h2, if_pos (by omega)]
    · rw [if_neg h2, if_neg (by omega)]
theorem erD_same {D : Wl.Disk} {P j : Nat} (h : D (P + j) = z64) : erD D P j = erD D P (j + 1) := by
  rw [← erD_succ]
  funext q
  by_cases e : q = P + j
  · rw [if_pos e, e]; unfold erD; rw [if_neg (by omega), h]
  · rw [if_neg e]
theorem erD_at (D : Wl.Disk) (P j : Nat) : erD D P j (P + j) = D (P + j) := by unfold erD; rw [if_neg (by omega)]
theorem size_arr : (Tryd.prog.info? 114).map (·.size) = some 64 := by kernel_rfl
theorem zero_arr (w : World) : (zeroValue 114).run Tryd.prog w = .ok (.agg (byteCells z64)) w := by kernel_rfl
theorem Lay1.pass {N D' D2 : Wl.Disk} {i j : Nat} {d dr : AD} {s sr : AP} (h : Lay1 N i d s D' j sr dr) (hon : s.on = true) (e : D' = D2) : Lay1 N i d s D2 (j + 1) sr dr := ⟨h.on, h.ds, h.wr, h.dk.trans e, h.fuse, .inr hon, h.fz, h.st⟩
section
variable {a : Act} {o : Oper} {W : World} {x y z : Operand}
theorem exec_arrAt {A : Option Addr} {c : Nat} (ho : o.op = .sliceToArrayPointer 114 x) (hx : a.eval x = .slice A 64 c) : (execOp a.eval o).run Tryd.prog W = .ok (.value (.pointer A)) W := by
  unfold execOp
  simp only [ho, hx]
  have hu := Tryd.underlying114
  simp [Instr.arrayAt, run_underlying hu, Result.andThen]
theorem sa_all {g : Nat} (ho : o.op = .slice 114 x none none none) (hx : a.eval x = .pointer (some ⟨g, 0, none⟩)) : (execOp a.eval o).run Tryd.prog W = .ok (.value (.slice (some ⟨g, 0, none⟩) 64 64)) W := by
  obtain ⟨i0, hi1, hi2⟩ := Option.map_eq_some_iff.1 size_u8
  have hu8 := Tryd.underlying114
  refine exec_slice ho hx rfl rfl rfl ?_
  simp [Instr.sliceAt, Instr.sureAddr, Instr.slice, Instr.sliceBounds, run_underlying hu8, sizeOf, typeInfo, hi1, hi2, Addr.add, Result.andThen]
theorem arr_neq {u : TypeId} {s t : B8} (ho : o.op = .binOp .neq 114 x y u) (hx : a.eval x = .agg (byteCells s)) (hy : a.eval y = .agg (byteCells t)) (hs : s.length = 64) (ht : t.length = 64) : (execOp a.eval o).run Tryd.prog W = .ok (.value (.bool (!decide (s = t)))) W := by
  obtain ⟨i0, hi1, hi2⟩ := Option.map_eq_some_iff.1 size_u8
  have hg : Tryd.prog.eqGuardType Tryd.prog.depth 114 = false := by kernel_rfl
  have he : (Op.equal 114 (.agg (byteCells s)) (.agg (byteCells t))).run Tryd.prog W = .ok (decide (s = t)) W := by
    show (Op.equalIn (9998 + 1 + 1) 114 (.agg (byteCells s)) (.agg (byteCells t))).run Tryd.prog W = _
    rw [run_equalIn_array W (9998 + 1) _ _ Tryd.underlying114 hi1, eqItems_bytes 9998 s t W (List.range 64) fun i hi => by have := List.mem_range.1 hi; omega, all_eq hs ht]
  unfold execOp
  simp [ho, hx, hy, eqGuard, hg, binOp, he, Result.andThen]
end
theorem arr_szL {t : B8} (h : t.length = 64) : (Tryd.prog.info? 114).map (·.size) = some (t.map fun x => Value.int .u8 (x.toNat : Int)).length := by rw [size_arr, List.length_map, h]
set_option maxRecDepth 20000 in
set_option maxHeartbeats 4000000 in
theorem erase_walk {w : World} {p : Nat} {F : Nat → Prop} {s : AP} {K : Nat} (h : PlantAt w p F s K) (i : Nat) (d : AD) (hd : s.ds[i]? = some d) (P c : Nat) (hP : ((P + c : Nat) : Int) ≤ d.n) (hc0 : 0 < c) (hK : K + c + 1 < 1099511627775) :
    Calls Tryd.prog 47 #[.agg (dskV p i), .int .i64 (P : Int), .int .i64 (c : Int)] w fun r w' => ∃ e s', r = .returned (.int .i64 e) ∧ WLaid (erD (dkD d) P c) i d s e s' ∧ Goes2 w p F w' s' (K + c + 1) := by
  have HPL := Lib.hid h
  have HD := Lib.hid hd
  have HPN := Lib.hid hP
  have hdn := h.dn hd
  have hi4 := h.il hd
  have yi : (i : Int) < 4 := by omega
  have yP : P + c ≤ 65536 := by omega
  obtain ⟨N, hNN⟩ : ∃ N, N = erD (dkD d) P c := ⟨_, rfl⟩
  rw [← hNN]
  have HNN := Lib.hid hNN
  have HIN := Lib.hid (fun (j : Nat) (hj : j < c) => show N (P + j) = z64 from by rw [hNN]; unfold erD; rw [if_pos (by omega)])
  clear h hd hP hdn hi4 hNN
  go_enter Tryd.func47, Tryd.ntmps47
  go_upto_region 0 with fail
  refine wp_region_lit ?_
  refine wpList_run (v := .pointer (some ⟨(w).heap.size, 0, none⟩)) (w' := (w).alloc (.cells (dskV p i) 60)) (wanted_none rfl) (gx_box rfl rfl (box_dskV p i _)) ?_;simp only [zz];refine nR (.int .i64 0) (gx_assign rfl rfl) ?_;simp only [zz]
  have hb_k := Blk.new (w) 60 (dskV p i)
  have ht_ := (Turn.refl nowhere (w)).alloc (.cells (dskV p i) 60)
  obtain ⟨n0_, hn0_⟩ : ∃ n, n = (w).heap.size := ⟨_, rfl⟩
  have hz_k : (w).heap.size = n0_ + 0 := by rw [hn0_]; simp
  obtain ⟨k, hg_⟩ : ∃ g, g = (w).heap.size := ⟨_, rfl⟩
  rw [← hg_] at hb_k hz_k ⊢
  clear hg_
  generalize (w).alloc (.cells (dskV p i) 60) = w1 at *
  have HT1 := Lib.hid ht_
  clear ht_
  have HBk := Lib.hid hb_k
  have HLk := Lib.hid (show (w).heap.size ≤ k from by omega)
  clear hb_k
  clear hn0_ hz_k
  clear n0_
  go_upto_region 1 with fail
  refine wp_region_lit ?_
  refine wpList_run (v := .pointer (some ⟨w1.heap.size, 0, none⟩)) (w' := w1.alloc (.cells (byteCells z64) 114)) (wanted_none rfl) (gx_alloc rfl (zero_arr _)) ?_;simp only [zz]
  have hb_ := Blk.new w1 114 (byteCells z64)
  have ht_ := (Turn.refl nowhere w1).alloc (.cells (byteCells z64) 114)
  obtain ⟨m, hg_⟩ : ∃ g, g = w1.heap.size := ⟨_, rfl⟩
  rw [← hg_] at hb_ ⊢
  have HLm := Lib.hid (show w1.heap.size ≤ m from by omega)
  clear hg_
  generalize w1.alloc (.cells (byteCells z64) 114) = w3 at *
  have HBm := Lib.hid hb_
  have HT13 := Lib.hid ht_
  clear hb_ ht_
  go_upto_region 2 with fail
  refine wp_region_lit ?_
  refine nR (.int .i64 (P : Int)) (exec_move rfl rfl) ?_;simp only [zz];refine nR (.int .i64 (P : Int)) (gx_assign rfl rfl) ?_;simp only [zz]
  have HT3 := Lib.hid (HT1.out.trans HT13.out fun _ _ e => e)
  have HBk3 := Lib.hid (HBk.out.turn HT13.out fun e => e)
  have HK3 := Lib.hid HBk3.out.lt
  have HM3 := Lib.hid HBm.out.lt
  have HS3 := Lib.hid HT3.out.size
  have HPL3 := Lib.hid (HPL.out.turn HT3.out fun _ _ e => e)
  have HFk := Lib.hid (show ¬ F k from fun e => by have := HPL.out.lt e; have := HLk.out; omega)
  have HFm := Lib.hid (show ¬ F m from fun e => by have := HPL.out.lt e; have := HLm.out; have := HT1.out.size; omega)
  have HT3F := Lib.hid (show Turn F w w3 from HT3.out.mono fun _ _ e => e.elim)
  clear HT1 HT13 HBk
  go_wp2_with fail
  go_loopg [8] c (fun gk iv wr => ∃ (j : Nat) (Fr : Nat → Prop) (sr : AP) (dr : AD), iv = .int .i64 ((P + j : Nat) : Int) ∧ j + gk = c ∧ PlantAt wr p Fr sr (K + j) ∧ Lay1 N i d s (erD (dkD d) P j) j sr dr ∧ (∀ b, Fr b → F b ∨ w3.heap.size ≤ b) ∧ Blk wr k 60 (dskV p i) ∧ Blk wr m 114 (byteCells z64) ∧ w3.heap.size ≤ wr.heap.size ∧ Turn F w wr)
  case atStart => exact ⟨0, F, s, d, rfl, by omega, HPL3.out, ⟨rfl, (set_same HD.out).symm, Wrote.refl _ _, (erD_zero _ _).symm, fun _ => rfl, .inl rfl, fun e => e, fun _ => rfl⟩, fun _ e => .inl e, HBk3.out, HBm.out, Nat.le_refl _, HT3F.out⟩
  clear HBk3 HBm HT3 HPL3 HT3F
  obtain ⟨j, Fr, sr, dr, rfl, hgk, hpl, hly, hFr, hbk, hbm, hsz, htr⟩ := hrel
  have HGK := Lib.hid hgk
  have HPR := Lib.hid hpl
  have HLY := Lib.hid hly
  have HFR := Lib.hid hFr
  have HBK := Lib.hid hbk
  have HBM := Lib.hid hbm
  have HSZ := Lib.hid hsz
  have HTR := Lib.hid htr
  have HDR := Lib.hid (hly.at_ HD.out)
  have HDN := Lib.hid (show dr.n = d.n from hly.wr.n)
  have yj : j ≤ c := by omega
  have HRk := Lib.hid (show ¬ Fr k from fun e => by rcases hFr _ e with e | e; exact HFk.out e; have := HK3.out; omega)
  have HRm := Lib.hid (show ¬ Fr m from fun e => by rcases hFr _ e with e | e; exact HFm.out e; have := HM3.out; omega)
  clear hgk hpl hly hFr hbk hbm hsz htr
  by_cases hlt : j < c
  · have HJ := Lib.hid hlt
    go_upto_region 3 with fail
    refine wp_region_lit ?_
    refine nR (.int .i64 ((P + j : Nat) : Int)) (exec_move rfl rfl) ?_;simp only [zz];refine nR (.int .i64 (P : Int)) (exec_move rfl rfl) ?_;simp only [zz];refine nR (.int .i64 (c : Int)) (exec_move rfl rfl) ?_;simp only [zz];refine nR (.int .i64 ((P + c : Nat) : Int)) (ix_add rfl rfl rfl (by omega) (by omega)) ?_;simp only [zz];refine nR (.bool true) (ix_lss rfl rfl rfl (decide_eq_true (by omega))) ?_;simp only [zz]
    go_upto_region 5 with fail
    refine wp_region_lit ?_
    refine nR (.pointer (some ⟨k, 0, none⟩)) (exec_field (off := 0) (d := 0) rfl rfl (by kernel_rfl)) ?_;simp only [zz];refine nR (.pointer (some ⟨p, 0, none⟩)) (exec_load1 rfl rfl (by kernel_rfl) (HBK.out.cell 0)) ?_;simp only [zz];refine nR (.pointer (some ⟨k, 1, none⟩)) (exec_field (off := 0) (d := 1) rfl rfl (by kernel_rfl)) ?_;simp only [zz];refine nR (.int .i64 (i : Int)) (exec_load1 rfl rfl (by kernel_rfl) (HBK.out.cell 1)) ?_;simp only [zz];refine nR (.int .i64 ((P + j : Nat) : Int)) (exec_move rfl rfl) ?_;simp only [zz]
    cases hon : s.on
    · refine wpList_op rfl fun K9 HK9 => ?_
      go_wp2_with fail
      refine (read_off HPR.out i (HLY.out.on.trans hon) (P + j)).mono ?_
      rintro e wr ⟨rfl, rfl⟩
      refine HK9.out _ _ ?_
      clear HK9
      try simp only [zz]
      refine nR (.tuple #[.slice none 0 0, .int .i64 2]) (exec_move rfl rfl) ?_;simp only [zz];refine nR (.slice none 0 0) (ix_extract rfl rfl rfl) ?_;simp only [zz];refine nR (.int .i64 2) (ix_extract rfl rfl rfl) ?_;simp only [zz];refine nR (.slice none 0 0) (gx_assign rfl rfl) ?_;simp only [zz];refine nR (.int .i64 2) (gx_assign rfl rfl) ?_;simp only [zz]
      go_upto_region 6 with fail
      refine wp_region_alw (fun W => Blk W k 60 (dskV p i)) (by kernel_rfl) ?_
      have hS0 : (fun W => Blk W k 60 (dskV p i)) wr.drew := HBK.out.drew
      have HD6 := Lib.hid ((Turn.refl nowhere wr).drew)
      generalize wr.drew = wd at *
      refine alw_take (i := 0) (v := .int .i64 2) rfl (by kernel_rfl) (by kernel_rfl) (fun _ _ _ h => h) (.inl ⟨by rfl, fun W hW => exec_move rfl rfl⟩) hS0 ?_
      simp only [zz]
      refine alw_take (i := 1) (v := .bool false) rfl (by kernel_rfl) (by kernel_rfl) (fun _ _ _ h => h) (.inl ⟨by rfl, fun W hW => ix_eql rfl rfl rfl (by decide)⟩) hS0 ?_
      simp only [zz]
      refine alw_take (i := 2) (v := .bool false) rfl (by kernel_rfl) (by kernel_rfl) (fun _ _ _ h => h) (.inl ⟨by rfl, fun W hW => exec_move rfl rfl⟩) hS0 ?_
      simp only [zz]
      refine alw_take (i := 3) (v := undef) rfl (by kernel_rfl) (by kernel_rfl) (fun _ _ _ h => h) (.inr ⟨by rfl, rfl⟩) hS0 ?_
      simp only [zz]
      refine alw_take (i := 4) (v := undef) rfl (by kernel_rfl) (by kernel_rfl) (fun _ _ _ h => h) (.inr ⟨by rfl, rfl⟩) hS0 ?_
      simp only [zz]
      refine alw_take (i := 5) (v := undef) rfl (by kernel_rfl) (by kernel_rfl) (fun _ _ _ h => h) (.inr ⟨by rfl, rfl⟩) hS0 ?_
      simp only [zz]
      refine alw_take (i := 6) (v := undef) rfl (by kernel_rfl) (by kernel_rfl) (fun _ _ _ h => h) (.inr ⟨by rfl, rfl⟩) hS0 ?_
      simp only [zz]
      refine alw_take (i := 7) (v := undef) rfl (by kernel_rfl) (by kernel_rfl) (fun _ _ _ h => h) (.inr ⟨by rfl, rfl⟩) hS0 ?_
      simp only [zz]
      refine alw_take (i := 8) (v := .bool false) rfl (by kernel_rfl) (by kernel_rfl) (fun _ _ _ h => h) (.inl ⟨by rfl, fun W hW => ix_pickF rfl rfl rfl⟩) hS0 ?_
      simp only [zz]
      refine alw_done rfl ?_
      refine NoPanic.normal ?_
      clear hS0
      try simp only [zz]
      go_upto_region 8 with fail
      refine wp_region_lit ?_
      refine nR (.int .i64 2) (exec_move rfl rfl) ?_;simp only [zz];refine nR (.bool true) (ix_neq rfl rfl rfl (by decide)) ?_;simp only [zz]
      go_upto_region 9 with fail
      refine wp_region_lit ?_
      refine nR (.int .i64 2) (exec_move rfl rfl) ?_;simp only [zz];refine nR (.int .i64 2) (gx_assign rfl rfl) ?_;simp only [zz]
      go_wp2_with fail
      go_ret
      have hp9 := HPR.out.turn HD6.out fun _ _ e => e
      have ht9 := HTR.out.trans (HD6.out.mono fun _ _ e => e.elim) fun _ _ e => e
      first
      | exact ⟨2, sr, rfl, HLY.out.off hon, Fr, hp9.mono (by omega), ht9, fun b e => (HFR.out b e).imp id fun e => Nat.le_trans HS3.out e⟩
      | exact ⟨2, rfl, sr, HLY.out.off hon, Fr, hp9.mono (by omega), ht9, fun b e => (HFR.out b e).imp id fun e => Nat.le_trans HS3.out e⟩
    · have hon2 : sr.on = true := HLY.out.on.trans hon
      refine wpList_op rfl fun K9 HK9 => ?_
      go_wp2_with fail
      refine (read_on HPR.out i dr HDR.out hon2 (P + j) (by rw [HDN.out]; have := HPN.out; omega)).mono ?_
      rintro e w6 ⟨R, rfl, -, hbs, ht⟩
      refine HK9.out _ _ ?_
      clear HK9
      try simp only [zz]
      rw [HLY.out.dk, erD_at] at hbs
      obtain ⟨x, hx⟩ : ∃ x, x = dkD d (P + j) := ⟨_, rfl⟩
      rw [← hx] at hbs
      have HX := Lib.hid hx
      have HXL := Lib.hid hbs.1
      have HR6 := Lib.hid (bs_range hbs)
      have HP6 := Lib.hid (HPR.out.turn ht fun _ _ e => e)
      have HBK6 := Lib.hid (HBK.out.turn ht fun e => e)
      have HBM6 := Lib.hid (HBM.out.turn ht fun e => e)
      have HT6 := Lib.hid (HTR.out.trans (ht.mono fun _ _ e => e.elim) fun _ _ e => e)
      have HSZ6 := Lib.hid (Nat.le_trans HSZ.out ht.size)
      clear hx hbs ht HPR HBK HBM HTR
      refine nR (.tuple #[.slice (some ⟨R, 0, none⟩) 64 64, .int .i64 0]) (exec_move rfl rfl) ?_;simp only [zz];refine nR (.slice (some ⟨R, 0, none⟩) 64 64) (ix_extract rfl rfl rfl) ?_;simp only [zz];refine nR (.int .i64 0) (ix_extract rfl rfl rfl) ?_;simp only [zz];refine nR (.slice (some ⟨R, 0, none⟩) 64 64) (gx_assign rfl rfl) ?_;simp only [zz];refine nR (.int .i64 0) (gx_assign rfl rfl) ?_;simp only [zz]
      go_upto_region 6 with fail
      refine wp_region_alw (fun W => W.rangeAt R 0 (bcs x) ∧ Blk W m 114 (byteCells z64)) (by kernel_rfl) ?_
      have hS0 : (fun W => W.rangeAt R 0 (bcs x) ∧ Blk W m 114 (byteCells z64)) w6.drew := ⟨HR6.out, HBM6.out.drew⟩
      have HD6 := Lib.hid ((Turn.refl nowhere w6).drew)
      generalize w6.drew = wd at *
      refine alw_take (i := 0) (v := .int .i64 0) rfl (by kernel_rfl) (by kernel_rfl) (fun _ _ _ h => h) (.inl ⟨by rfl, fun W hW => exec_move rfl rfl⟩) hS0 ?_
      simp only [zz]
      refine alw_take (i := 1) (v := .bool true) rfl (by kernel_rfl) (by kernel_rfl) (fun _ _ _ h => h) (.inl ⟨by rfl, fun W hW => ix_eql rfl rfl rfl (by decide)⟩) hS0 ?_
      simp only [zz]
      refine alw_take (i := 2) (v := .bool true) rfl (by kernel_rfl) (by kernel_rfl) (fun _ _ _ h => h) (.inl ⟨by rfl, fun W hW => exec_move rfl rfl⟩) hS0 ?_
      simp only [zz]
      refine alw_take (i := 3) (v := .slice (some ⟨R, 0, none⟩) 64 64) rfl (by kernel_rfl) (by kernel_rfl) (fun _ _ _ h => h) (.inl ⟨by rfl, fun W hW => exec_move rfl rfl⟩) hS0 ?_
      simp only [zz]
      refine alw_take (i := 4) (v := .pointer (some ⟨R, 0, none⟩)) rfl (by kernel_rfl) (by kernel_rfl) (fun _ _ _ h => h) (.inl ⟨by rfl, fun W hW => exec_arrAt rfl rfl⟩) hS0 ?_
      simp only [zz]
      refine alw_take (i := 5) (v := .agg (byteCells x)) rfl (by kernel_rfl) (by kernel_rfl) (fun _ _ _ h => h) (.inl ⟨by rfl, fun W hW => gx_loads rfl rfl hW.1 Tryd.underlying114 rfl (arr_szL HXL.out)⟩) hS0 ?_
      simp only [zz]
      refine alw_take (i := 6) (v := .agg (byteCells z64)) rfl (by kernel_rfl) (by kernel_rfl) (fun _ _ _ h => h) (.inl ⟨by rfl, fun W hW => gx_loads rfl rfl (blk_range hW.2) Tryd.underlying114 rfl (arr_szL (t := z64) rfl)⟩) hS0 ?_
      simp only [zz]
      refine alw_take (i := 7) (v := .bool (!decide (x = z64))) rfl (by kernel_rfl) (by kernel_rfl) (fun _ _ _ h => h) (.inl ⟨by rfl, fun W hW => arr_neq rfl rfl rfl HXL.out rfl⟩) hS0 ?_
      simp only [zz]
      refine alw_take (i := 8) (v := .bool (!decide (x = z64))) rfl (by kernel_rfl) (by kernel_rfl) (fun _ _ _ h => h) (.inl ⟨by rfl, fun W hW => ix_pickT rfl rfl rfl⟩) hS0 ?_
      simp only [zz]
      refine alw_done rfl ?_
      refine NoPanic.normal ?_
      clear hS0
      try simp only [zz]
      have HP7 := Lib.hid (HP6.out.turn HD6.out fun _ _ e => e)
      have HBK7 := Lib.hid (HBK6.out.turn HD6.out fun e => e)
      have HBM7 := Lib.hid (HBM6.out.turn HD6.out fun e => e)
      have HT7 := Lib.hid (HT6.out.trans (HD6.out.mono fun _ _ e => e.elim) fun _ _ e => e)
      have HSZ7 := Lib.hid (Nat.le_trans HSZ6.out HD6.out.size)
      clear HP6 HBK6 HBM6 HT6 HSZ6 HD6 HR6
      by_cases hz : x = z64
      · rw [decide_eq_true hz]
        have HLP := Lib.hid (HLY.out.pass hon (erD_same (HX.out ▸ hz)))
        go_upto_region 8 with fail
        refine wp_region_lit ?_
        refine nR (.int .i64 0) (exec_move rfl rfl) ?_;simp only [zz];refine nR (.bool false) (ix_neq rfl rfl rfl (by decide)) ?_;simp only [zz]
        go_upto_region 4 with fail
        refine wp_region_lit ?_
        refine nR (.int .i64 ((P + j : Nat) : Int)) (exec_move rfl rfl) ?_;simp only [zz];refine nR (.int .i64 ((P + (j + 1) : Nat) : Int)) (ix_add rfl rfl rfl (by omega) (by omega)) ?_;simp only [zz];refine nR (.int .i64 ((P + (j + 1) : Nat) : Int)) (gx_assign rfl rfl) ?_;simp only [zz]
        go_wp2_with fail
        go_roundg (c - (j + 1))
        case measure => have := HGK.out; have := HJ.out; omega
        case rel => exact ⟨j + 1, Fr, sr, dr, rfl, by have := HJ.out; omega, HP7.out.mono (by omega), HLP.out, HFR.out, HBK7.out, HBM7.out, HSZ7.out, HT7.out⟩
      · rw [decide_eq_false hz]
        have HB7 := Lib.hid (show Bs wd (some ⟨m, 0, none⟩) 64 z64 from by
          have := blk_bs HBM7.out (off := 0) (k := 64) (by decide) (by decide)
          rwa [List.drop_zero, List.take_of_length_le (by decide)] at this)
        go_upto_region 7 with fail
        refine wp_region_alw (fun W => Blk W k 60 (dskV p i)) (by kernel_rfl) ?_
        have hS0 : (fun W => Blk W k 60 (dskV p i)) wd.drew := HBK7.out.drew
        have HD7 := Lib.hid ((Turn.refl nowhere wd).drew)
        generalize wd.drew = we at *
        refine alw_take (i := 0) (v := .pointer (some ⟨k, 0, none⟩)) rfl (by kernel_rfl) (by kernel_rfl) (fun _ _ _ h => h) (.inl ⟨by rfl, fun W hW => exec_field (off := 0) (d := 0) rfl rfl (by kernel_rfl)⟩) hS0 ?_
        simp only [zz]
        refine alw_take (i := 1) (v := .pointer (some ⟨p, 0, none⟩)) rfl (by kernel_rfl) (by kernel_rfl) (fun _ _ _ h => h) (.inl ⟨by rfl, fun W hW => exec_load1 rfl rfl (by kernel_rfl) (hW.cell 0)⟩) hS0 ?_
        simp only [zz]
        refine alw_take (i := 2) (v := .pointer (some ⟨k, 1, none⟩)) rfl (by kernel_rfl) (by kernel_rfl) (fun _ _ _ h => h) (.inl ⟨by rfl, fun W hW => exec_field (off := 0) (d := 1) rfl rfl (by kernel_rfl)⟩) hS0 ?_
        simp only [zz]
        refine alw_take (i := 3) (v := .int .i64 (i : Int)) rfl (by kernel_rfl) (by kernel_rfl) (fun _ _ _ h => h) (.inl ⟨by rfl, fun W hW => exec_load1 rfl rfl (by kernel_rfl) (hW.cell 1)⟩) hS0 ?_
        simp only [zz]
        refine alw_take (i := 4) (v := .int .i64 ((P + j : Nat) : Int)) rfl (by kernel_rfl) (by kernel_rfl) (fun _ _ _ h => h) (.inl ⟨by rfl, fun W hW => exec_move rfl rfl⟩) hS0 ?_
        simp only [zz]
        refine alw_take (i := 5) (v := .slice (some ⟨m, 0, none⟩) 64 64) rfl (by kernel_rfl) (by kernel_rfl) (fun _ _ _ h => h) (.inl ⟨by rfl, fun W hW => sa_all rfl rfl⟩) hS0 ?_
        simp only [zz]
        have HP8 := Lib.hid (HP7.out.turn HD7.out fun _ _ e => e)
        have HBM8 := Lib.hid (HBM7.out.turn HD7.out fun e => e)
        have HB8 := Lib.hid (HB7.out.still HD7.out)
        have HT8 := Lib.hid (HT7.out.trans (HD7.out.mono fun _ _ e => e.elim) fun _ _ e => e)
        have HSZ8 := Lib.hid (Nat.le_trans HSZ7.out HD7.out.size)
        clear HP7 HBM7 HB7 HT7 HSZ7 HD7 HBK7
        by_cases hf0 : sr.fuse = 0
        · refine alw_step (i := 6) (by kernel_rfl) rfl rfl ?_
          intro K1 HK1
          go_wp2_with fail
          refine (write_burn HP8.out i dr HDR.out hon2 ((P + j : Nat) : Int) ⟨by omega, by rw [HDN.out]; have := HPN.out; omega⟩ hf0 (some ⟨m, 0, none⟩) 64).mono ?_
          rintro e w9 ⟨rfl, hgo⟩
          obtain ⟨F9, hp9, ht9, hf9⟩ := hgo
          have hS1 : Blk w9 k 60 (dskV p i) := hS0.turn ht9 HRk.out
          refine HK1.out _ _ ⟨hS1, ?_⟩
          clear HK1
          try simp only [zz]
          refine alw_take (i := 7) (v := .int .i64 2) rfl (by kernel_rfl) (by kernel_rfl) (fun _ _ _ h => h) (.inl ⟨by rfl, fun W hW => gx_assign rfl rfl⟩) hS1 ?_
          simp only [zz]
          refine alw_done rfl ?_
          refine NoPanic.normal ?_
          clear hS0
          try simp only [zz]
          go_upto_region 8 with fail
          refine wp_region_lit ?_
          refine nR (.int .i64 2) (exec_move rfl rfl) ?_;simp only [zz];refine nR (.bool true) (ix_neq rfl rfl rfl (by decide)) ?_;simp only [zz]
          go_upto_region 9 with fail
          refine wp_region_lit ?_
          refine nR (.int .i64 2) (exec_move rfl rfl) ?_;simp only [zz];refine nR (.int .i64 2) (gx_assign rfl rfl) ?_;simp only [zz]
          go_wp2_with fail
          go_ret
          have hq1 := HT8.out.trans ht9 (fun b hb e => (HFR.out b e).elim id fun e => absurd hb (by have := HS3.out; omega))
          have hq2 : ∀ b, F9 b → F b ∨ w.heap.size ≤ b := fun b e => (hf9 b e).elim (fun e => (HFR.out b e).imp id fun e => Nat.le_trans HS3.out e) fun e => .inr (Nat.le_trans (Nat.le_trans HS3.out HSZ8.out) e)
          first
          | exact ⟨2, sr.burn, rfl, HLY.out.burn hf0, F9, hp9.mono (by omega), hq1, hq2⟩
          | exact ⟨2, rfl, sr.burn, HLY.out.burn hf0, F9, hp9.mono (by omega), hq1, hq2⟩
        · have HLP := Lib.hid (HLY.out.put hon hf0 (P + j) ⟨z64, rfl⟩ (HIN.out j HJ.out).symm)
          rw [erD_succ] at HLP
          refine alw_step (i := 6) (by kernel_rfl) rfl rfl ?_
          intro K1 HK1
          go_wp2_with fail
          refine (write_ok HP8.out i dr HDR.out hon2 ((P + j : Nat) : Int) ⟨by omega, by rw [HDN.out]; have := HPN.out; omega⟩ hf0 (some ⟨m, 0, none⟩) 64 ⟨z64, rfl⟩ HB8.out (by omega)).mono ?_
          rintro e w9 ⟨rfl, hgo⟩
          obtain ⟨F9, hp9, ht9, hf9⟩ := hgo
          have hS1 : Blk w9 k 60 (dskV p i) := hS0.turn ht9 HRk.out
          refine HK1.out _ _ ⟨hS1, ?_⟩
          clear HK1
          try simp only [zz]
          refine alw_take (i := 7) (v := .int .i64 0) rfl (by kernel_rfl) (by kernel_rfl) (fun _ _ _ h => h) (.inl ⟨by rfl, fun W hW => gx_assign rfl rfl⟩) hS1 ?_
          simp only [zz]
          refine alw_done rfl ?_
          refine NoPanic.normal ?_
          clear hS0
          try simp only [zz]
          go_upto_region 8 with fail
          refine wp_region_lit ?_
          refine nR (.int .i64 0) (exec_move rfl rfl) ?_;simp only [zz];refine nR (.bool false) (ix_neq rfl rfl rfl (by decide)) ?_;simp only [zz]
          go_upto_region 4 with fail
          refine wp_region_lit ?_
          refine nR (.int .i64 ((P + j : Nat) : Int)) (exec_move rfl rfl) ?_;simp only [zz];refine nR (.int .i64 ((P + (j + 1) : Nat) : Int)) (ix_add rfl rfl rfl (by omega) (by omega)) ?_;simp only [zz];refine nR (.int .i64 ((P + (j + 1) : Nat) : Int)) (gx_assign rfl rfl) ?_;simp only [zz]
          go_wp2_with fail
          go_roundg (c - (j + 1))
          case measure => have := HGK.out; have := HJ.out; omega
          case rel => exact ⟨j + 1, F9, _, _, rfl, by have := HJ.out; omega, hp9, HLP.out, (fun b e => (hf9 b e).elim (HFR.out b) fun e => .inr (Nat.le_trans HSZ8.out e)), hS1, HBM8.out.turn ht9 HRm.out, Nat.le_trans HSZ8.out ht9.size, HT8.out.trans ht9 (fun b hb e => (HFR.out b e).elim id fun e => absurd hb (by have := HS3.out; omega))⟩
  · obtain rfl : j = c := by omega
    have hon : s.on = true := HLY.out.go.resolve_left (by omega)
    have hon2 : sr.on = true := HLY.out.on.trans hon
    have HLF := Lib.hid (show Lay1 N i d s N j sr dr from by have h := HLY.out; rw [← HNN.out] at h; exact h)
    go_upto_region 3 with fail
    refine wp_region_lit ?_
    refine nR (.int .i64 ((P + j : Nat) : Int)) (exec_move rfl rfl) ?_;simp only [zz];refine nR (.int .i64 (P : Int)) (exec_move rfl rfl) ?_;simp only [zz];refine nR (.int .i64 (j : Int)) (exec_move rfl rfl) ?_;simp only [zz];refine nR (.int .i64 ((P + j : Nat) : Int)) (ix_add rfl rfl rfl (by omega) (by omega)) ?_;simp only [zz];refine nR (.bool false) (ix_lss rfl rfl rfl (decide_eq_false (by omega))) ?_;simp only [zz]
    go_upto_region 10 with fail
    refine wp_region_lit ?_
    refine nR (.pointer (some ⟨k, 0, none⟩)) (exec_field (off := 0) (d := 0) rfl rfl (by kernel_rfl)) ?_;simp only [zz];refine nR (.pointer (some ⟨p, 0, none⟩)) (exec_load1 rfl rfl (by kernel_rfl) (HBK.out.cell 0)) ?_;simp only [zz];refine nR (.pointer (some ⟨k, 1, none⟩)) (exec_field (off := 0) (d := 1) rfl rfl (by kernel_rfl)) ?_;simp only [zz];refine nR (.int .i64 (i : Int)) (exec_load1 rfl rfl (by kernel_rfl) (HBK.out.cell 1)) ?_;simp only [zz]
    by_cases hf0 : sr.fuse = 0
    · refine wpList_op rfl fun K9 HK9 => ?_
      go_wp2_with fail
      refine (flush_burn HPR.out i dr HDR.out hon2 hf0).mono ?_
      rintro e w9 ⟨rfl, hgo⟩
      refine HK9.out _ _ ?_
      clear HK9
      try simp only [zz]
      refine nR (.int .i64 2) (gx_assign rfl rfl) ?_;simp only [zz]
      obtain ⟨F9, hp9, ht9, hf9⟩ := hgo
      go_wp2_with fail
      go_ret
      first
      | exact ⟨2, sr.burn, rfl, HLF.out.burn hf0, F9, hp9.mono (by omega), HTR.out.trans ht9 (fun b hb e => (HFR.out b e).elim id fun e => absurd hb (by have := HS3.out; omega)), fun b e => (hf9 b e).elim (fun e => (HFR.out b e).imp id fun e => Nat.le_trans HS3.out e) fun e => .inr (Nat.le_trans (Nat.le_trans HS3.out HSZ.out) e)⟩
      | exact ⟨2, rfl, sr.burn, HLF.out.burn hf0, F9, hp9.mono (by omega), HTR.out.trans ht9 (fun b hb e => (HFR.out b e).elim id fun e => absurd hb (by have := HS3.out; omega)), fun b e => (hf9 b e).elim (fun e => (HFR.out b e).imp id fun e => Nat.le_trans HS3.out e) fun e => .inr (Nat.le_trans (Nat.le_trans HS3.out HSZ.out) e)⟩
    · refine wpList_op rfl fun K9 HK9 => ?_
      go_wp2_with fail
      refine (flush_ok HPR.out i dr HDR.out hon2 hf0 (by omega)).mono ?_
      rintro e w9 ⟨rfl, hgo⟩
      refine HK9.out _ _ ?_
      clear HK9
      try simp only [zz]
      refine nR (.int .i64 0) (gx_assign rfl rfl) ?_;simp only [zz]
      obtain ⟨F9, hp9, ht9, hf9⟩ := hgo
      go_wp2_with fail
      go_ret
      first
      | exact ⟨0, sr.flushed i dr, rfl, HLF.out.flush hon hf0, F9, hp9.mono (by omega), HTR.out.trans ht9 (fun b hb e => (HFR.out b e).elim id fun e => absurd hb (by have := HS3.out; omega)), fun b e => (hf9 b e).elim (fun e => (HFR.out b e).imp id fun e => Nat.le_trans HS3.out e) fun e => .inr (Nat.le_trans (Nat.le_trans HS3.out HSZ.out) e)⟩
      | exact ⟨0, rfl, sr.flushed i dr, HLF.out.flush hon hf0, F9, hp9.mono (by omega), HTR.out.trans ht9 (fun b hb e => (HFR.out b e).elim id fun e => absurd hb (by have := HS3.out; omega)), fun b e => (hf9 b e).elim (fun e => (HFR.out b e).imp id fun e => Nat.le_trans HS3.out e) fun e => .inr (Nat.le_trans (Nat.le_trans HS3.out HSZ.out) e)⟩
end Go.Proofs.YtelipeoilcepbaaDoor
