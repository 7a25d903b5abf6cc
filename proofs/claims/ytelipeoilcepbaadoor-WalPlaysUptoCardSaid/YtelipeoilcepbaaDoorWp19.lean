/-
  Texts in one file: WlU. Conditions: the tables and the errors read as the program's text lays them.
-/
import Derived.Test.YtelipeoilcepbaaDoorWp0
import Derived.Test.YtelipeoilcepbaaDoorWp18
namespace Go.Proofs.YtelipeoilcepbaaDoor
open Go.RowKit
open Wl (B8)
set_option linter.unusedVariables false
set_option linter.unusedSimpArgs false
set_option maxRecDepth 20000
open Wl (lay enc)
theorem st_all {a : Act} {o : Oper} {W : World} {x : Operand} {g : Nat} (ho : o.op = .slice 95 x none none none) (hx : a.eval x = .pointer (some ⟨g, 0, none⟩)) : (execOp a.eval o).run Tryd.prog W = .ok (.value (.slice (some ⟨g, 0, none⟩) 12 12)) W := by
  obtain ⟨i0, hi1, hi2⟩ := Option.map_eq_some_iff.1 size_u8
  have hu8 := Tryd.underlying95
  refine exec_slice ho hx rfl rfl rfl ?_
  simp [Instr.sliceAt, Instr.sureAddr, Instr.slice, Instr.sliceBounds, run_underlying hu8, sizeOf, typeInfo, hi1, hi2, Addr.add, Result.andThen]
def encH (s : Wl.Stamp) (t : B8) (h : Nat) : B8 := s.tag h ++ (t.drop (20 * h)).take 20
def encs (s : Wl.Stamp) (t : B8) (h x : Nat) : B8 := (List.range x).flatMap fun y => encH s t (h + y)
theorem encs_succ (s : Wl.Stamp) (t : B8) (h x : Nat) : encs s t h (x + 1) = encs s t h x ++ encH s t (h + x) := by
  unfold encs
  rw [List.range_succ, List.flatMap_append]
  simp
theorem encs_two (s : Wl.Stamp) (t : B8) (j : Nat) : encs s t (2 * j) 2 = enc s t j := by
  rw [encs_succ, encs_succ]
  unfold encs encH enc
  rw [show 20 * (2 * j + 0) = 40 * j by omega, show 20 * (2 * j + 1) = 40 * j + 20 by omega]
  simp
theorem encs_len {s : Wl.Stamp} {t : B8} {h c : Nat} (ht : t.length = 20 * c) : ∀ x, h + x ≤ c → (encs s t h x).length = 32 * x
  | 0, _ => rfl
  | x + 1, hx => by
    rw [encs_succ, List.length_append, encs_len ht x (by omega)]
    unfold encH
    rw [List.length_append, Wl.tag_len, List.length_take, List.length_drop, ht]
    omega
theorem lay_zero (D : Wl.Disk) (P : Nat) (s : Wl.Stamp) (t : B8) : lay D P 0 s t = D := by
  funext q
  unfold lay
  rw [if_neg (by omega)]
theorem lay_succ (D : Wl.Disk) (P j : Nat) (s : Wl.Stamp) (t : B8) : (fun k => if k = P + j then enc s t j else lay D P j s t k) = lay D P (j + 1) s t := by
  funext q
  unfold lay
  by_cases h : q = P + j
  · subst h
    rw [if_pos rfl, if_pos (by omega), show P + j - P = j by omega]
  · rw [if_neg h]
    by_cases h2 : P ≤ q ∧ q < P + j
    · rw [if_pos h2, if_pos (by omega)]
    · rw [if_neg h2, if_neg (by omega)]
theorem lay_in (D : Wl.Disk) {P c j : Nat} (s : Wl.Stamp) (t : B8) (h : j < c) : lay D P c s t (P + j) = enc s t j := by
  unfold lay
  rw [if_pos (by omega), show P + j - P = j by omega]
theorem set_same {s : AP} {i : Nat} {d : AD} (h : s.ds[i]? = some d) : s.ds.set i d = s.ds := by
  obtain ⟨hi, e⟩ := List.getElem?_eq_some_iff.1 h
  rw [← e]; exact List.set_getElem_self hi
structure Lay1 (N : Wl.Disk) (i : Nat) (d : AD) (s : AP) (D' : Wl.Disk) (j : Nat) (sr : AP) (dr : AD) : Prop where
  on : sr.on = s.on
  ds : sr.ds = s.ds.set i dr
  wr : Wrote N d dr
  dk : dkD dr = D'
  fuse : s.fuse < 0 → sr.fuse = s.fuse
  go : j = 0 ∨ s.on = true
  fz : s.fuse = 0 → sr.fuse = 0
  st : s.fuse = 0 → dr = d
theorem Lay1.at_ {N D' : Wl.Disk} {i j : Nat} {d dr : AD} {s sr : AP} (h : Lay1 N i d s D' j sr dr) (hd : s.ds[i]? = some d) : sr.ds[i]? = some dr := by
  rw [h.ds, List.getElem?_set_self (List.getElem?_eq_some_iff.1 hd).1]
theorem Lay1.put {N D' : Wl.Disk} {i j : Nat} {d dr : AD} {s sr : AP} (h : Lay1 N i d s D' j sr dr) (hon : s.on = true) (hz : sr.fuse ≠ 0) (q : Nat) (b : Sec) (hb : b.1 = N q) : Lay1 N i d s (fun k => if k = q then b.1 else D' k) (j + 1) (sr.put i dr (q : Int) b) (wput dr (sr.steps + 1) (q : Int) b) where
  on := h.on
  ds := by
    show sr.ds.set i _ = _
    rw [h.ds, List.set_set]
    rfl
  wr := h.wr.put _ hb
  dk := by rw [dk_put, h.dk]
  fuse hf := by
    have := h.fuse hf
    show burnt sr.fuse = s.fuse
    unfold burnt
    rw [if_neg (by omega)]; exact this
  go := .inr hon
  fz e := absurd (h.fz e) hz
  st e := absurd (h.fz e) hz
theorem Lay1.burn {N D' : Wl.Disk} {i j : Nat} {d dr : AD} {s sr : AP} (h : Lay1 N i d s D' j sr dr) (h0 : sr.fuse = 0) : WLaid N i d s 2 sr.burn :=
  .inr ⟨rfl, rfl, fun hf => by have := h.fuse hf; omega, dr, h.ds, h.wr, h.st⟩
theorem Lay1.off {N D' : Wl.Disk} {i j : Nat} {d dr : AD} {s sr : AP} (h : Lay1 N i d s D' j sr dr) (h0 : s.on = false) : WLaid N i d s 2 sr :=
  .inr ⟨rfl, h.on.trans h0, fun _ => h0, dr, h.ds, h.wr, h.st⟩
theorem Lay1.flush {N : Wl.Disk} {i j : Nat} {d dr : AD} {s sr : AP} (h : Lay1 N i d s N j sr dr) (h0 : s.on = true) (hz : sr.fuse ≠ 0) : WLaid N i d s 0 (sr.flushed i dr) :=
  .inl ⟨rfl, h0, h.on.trans h0, ⟨fun hf => by
    have := h.fuse hf
    show burnt sr.fuse = s.fuse
    unfold burnt
    rw [if_neg (by omega)]; exact this, fun e => hz (h.fz e)⟩, wflush dr, by show sr.ds.set i _ = _; rw [h.ds, List.set_set]; rfl, h.wr.n, rfl, by rw [dk_flush, h.dk]⟩
set_option maxRecDepth 20000 in
set_option maxHeartbeats 4000000 in
theorem lay_walk {w : World} {p : Nat} {F : Nat → Prop} {s : AP} {K : Nat} (h : PlantAt w p F s K) (htab : Tab w) (i : Nat) (d : AD) (hd : s.ds[i]? = some d) (P c : Nat) (hP : ((P + c : Nat) : Int) ≤ d.n) (hc0 : 0 < c) (hc : c ≤ 64) (st : Wl.Stamp) (ha : st.age ≤ 9223372036854775807) (hno : st.no ≤ 9223372036854775807) (hco : st.cost ≤ 9223372036854775807) (A : Option Addr) (cap : Nat) (t : B8) (ht : Bs w A (40 * c) t) (hcap : 40 * c ≤ cap) (hA : ∀ b off, A = some ⟨b, off, none⟩ → ¬ F b) (hK : K + c + 1 < 1099511627775) :
    Calls Tryd.prog 29 #[.agg (dskV p i), .int .i64 (P : Int), .agg (stA st), .slice A (40 * c) cap] w fun r w' => ∃ e s', r = .returned (.int .i64 e) ∧ WLaid (lay (dkD d) P c { st with sum := Crc.sumN t } t) i d s e s' ∧ Goes2 w p F w' s' (K + c + 1) := by
  have HPL := Lib.hid h
  have HTAB := Lib.hid htab
  have HD := Lib.hid hd
  have HPN := Lib.hid hP
  have HBT := Lib.hid ht
  have HLT := Lib.hid ht.1
  have HCAP := Lib.hid hcap
  have HAF := Lib.hid hA
  have hdn := h.dn hd
  have hi4 := h.il hd
  have yi : (i : Int) < 4 := by omega
  have yP : P ≤ 65536 := by omega
  obtain ⟨n, hn⟩ : ∃ n, n = 40 * c := ⟨_, rfl⟩
  have HN := Lib.hid hn
  rw [← hn] at HBT HLT HCAP ⊢
  have yn : n ≤ 2560 := by omega
  have HCR := Lib.hid (show Crc.sumN t < 4294967296 from Crc.sumN_lt t)
  obtain ⟨z, hz⟩ : ∃ z : Wl.Stamp, z = { st with sum := Crc.sumN t } := ⟨_, rfl⟩
  have HZ := Lib.hid (show #[.int .i64 (st.age : Int), .int .i64 (st.no : Int), .int .i64 (st.cost : Int), .int .i64 ((Crc.sumN t : Nat) : Int)] = stA z by rw [hz]; rfl)
  have HZO := Lib.hid (show StOk z from by rw [hz]; exact ⟨ha, hno, hco, by show Crc.sumN t ≤ _; have := Crc.sumN_lt t; omega⟩)
  rw [← hz]
  obtain ⟨N, hNN⟩ : ∃ N, N = lay (dkD d) P c z t := ⟨_, rfl⟩
  rw [← hNN]
  have HNN := Lib.hid hNN
  have HIN := Lib.hid (fun (j : Nat) (hj : j < c) => show N (P + j) = enc z t j from by rw [hNN]; exact lay_in _ _ _ hj)
  clear h hd hP ht hcap hA htab hdn hi4 hn hz hNN ha hno hco
  go_enter Tryd.func29, Tryd.ntmps29
  go_upto_region 0 with fail
  refine wp_region_lit ?_
  refine wpList_run (v := .pointer (some ⟨(w).heap.size, 0, none⟩)) (w' := (w).alloc (.cells (dskV p i) 60)) (wanted_none rfl) (gx_box rfl rfl (box_dskV p i _)) ?_;simp only [zz];refine wpList_run (v := .pointer (some ⟨((w).alloc (.cells (dskV p i) 60)).heap.size, 0, none⟩)) (w' := ((w).alloc (.cells (dskV p i) 60)).alloc (.cells (stA st) 67)) (wanted_none rfl) (gx_box rfl rfl (box_st st _)) ?_;simp only [zz];refine nR (.int .i64 0) (gx_assign rfl rfl) ?_;simp only [zz]
  have hb_k := (Blk.new (w) 60 (dskV p i)).alloc (.cells (stA st) 67)
  have hb_m := Blk.new ((w).alloc (.cells (dskV p i) 60)) 67 (stA st)
  have ht_ := ((Turn.refl nowhere (w)).alloc (.cells (dskV p i) 60)).alloc (.cells (stA st) 67)
  obtain ⟨n0_, hn0_⟩ : ∃ n, n = (w).heap.size := ⟨_, rfl⟩
  have hz_k : (w).heap.size = n0_ + 0 := by rw [hn0_]; simp
  have hz_m : ((w).alloc (.cells (dskV p i) 60)).heap.size = n0_ + 1 := by rw [hn0_]; simp
  obtain ⟨m, hg_⟩ : ∃ g, g = ((w).alloc (.cells (dskV p i) 60)).heap.size := ⟨_, rfl⟩
  rw [← hg_] at hb_m hz_m ⊢
  clear hg_
  obtain ⟨k, hg_⟩ : ∃ g, g = (w).heap.size := ⟨_, rfl⟩
  rw [← hg_] at hb_k hz_k ⊢
  clear hg_
  generalize ((w).alloc (.cells (dskV p i) 60)).alloc (.cells (stA st) 67) = w1 at *
  have HT1 := Lib.hid ht_
  clear ht_
  have HBk := Lib.hid hb_k
  have HLk := Lib.hid (show (w).heap.size ≤ k from by omega)
  clear hb_k
  have HBm := Lib.hid hb_m
  have HLm := Lib.hid (show (w).heap.size ≤ m from by omega)
  clear hb_m
  have HNkm := Lib.hid (show k ≠ m from by omega)
  clear hn0_ hz_k hz_m
  clear n0_
  go_upto_region 1 with fail
  refine wp_region_lit ?_
  refine nR (.slice A n cap) (exec_move rfl rfl) ?_;simp only [zz]
  refine wpList_op rfl fun K9 HK9 => ?_
  go_wp2_with fail
  refine (sumOf_walk w1 A n cap t (HBT.out.still HT1.out) (tab_still HTAB.out HT1.out)).mono ?_
  rintro e w2 ⟨rfl, ht⟩
  refine HK9.out _ _ ?_
  clear HK9
  try simp only [zz]
  have HT2 := Lib.hid (HT1.out.trans ht fun _ _ e => e)
  have HBk2 := Lib.hid (HBk.out.turn ht fun e => e)
  have HBm2 := Lib.hid (HBm.out.turn ht fun e => e)
  clear ht HT1 HBk HBm
  refine nR (.pointer (some ⟨m, 3, none⟩)) (exec_field (off := 0) (d := 3) rfl rfl (by kernel_rfl)) ?_;simp only [zz]
  refine wpList_storeU 3 (.int .i64 ((Crc.sumN t : Nat) : Int)) (wanted_none rfl) 3 (.tmp 16) (.tmp 15) rfl HBm2.out rfl rfl (by show 3 < 4; decide) ⟨rfl, rfl⟩ size_int ?_
  intro w3 hb ht
  have HBm3 := Lib.hid (show Blk w3 m 67 (stA z) from by rw [← HZ.out]; exact hb)
  have HBk3 := Lib.hid (HBk2.out.turn (F := only m) ht fun e => HNkm.out e)
  have HT3 := Lib.hid (HT2.out.trans ht fun k hk e => by have := HLm.out; have e : k = m := e; omega)
  clear hb ht HT2 HBk2 HBm2
  simp only [zz]
  go_upto_region 2 with fail
  refine wp_region_lit ?_
  refine nR (.slice A n cap) (exec_move rfl rfl) ?_;simp only [zz];refine nR (.int .i64 (n : Int)) (gx_len rfl rfl Tryd.underlying38) ?_;simp only [zz];refine nR (.int .i64 (c : Int)) (wx_q40 rfl rfl (by omega) (by have := HN.out; omega)) ?_;simp only [zz];refine nR (.int .i64 0) (exec_move rfl rfl) ?_;simp only [zz]
  have HK3 := Lib.hid HBk3.out.lt
  have HM3 := Lib.hid HBm3.out.lt
  have HS3 := Lib.hid HT3.out.size
  have HPL3 := Lib.hid (HPL.out.turn HT3.out fun _ _ e => e)
  have HBT3 := Lib.hid (HBT.out.still HT3.out)
  have HFk := Lib.hid (show ¬ F k from fun e => by have := HPL.out.lt e; have := HLk.out; omega)
  have HFm := Lib.hid (show ¬ F m from fun e => by have := HPL.out.lt e; have := HLm.out; omega)
  have HT3F := Lib.hid (show Turn F w w3 from HT3.out.mono fun _ _ e => e.elim)
  have HAB := Lib.hid (show ∀ b off, A = some ⟨b, off, none⟩ → b < w3.heap.size from fun b off e => by
    obtain ⟨b', o', e', hc'⟩ := HBT3.out.2.2 (by have := HN.out; omega)
    rw [e] at e'
    injection e' with e'
    injection e' with e1 e2
    rw [e1]
    exact World.block_lt_of_cell? _ _ (hc' 0 (by have := HN.out; omega)))
  go_wp2_with fail
  go_loopg [20] c (fun gk iv wr => ∃ (j : Nat) (Fr : Nat → Prop) (sr : AP) (dr : AD), iv = .int .i64 (j : Int) ∧ j + gk = c ∧ PlantAt wr p Fr sr (K + j) ∧ Lay1 N i d s (lay (dkD d) P j z t) j sr dr ∧ (∀ b, Fr b → F b ∨ w3.heap.size ≤ b) ∧ Blk wr k 60 (dskV p i) ∧ Blk wr m 67 (stA z) ∧ Bs wr A n t ∧ w3.heap.size ≤ wr.heap.size ∧ Turn F w wr)
  case atStart => exact ⟨0, F, s, d, rfl, by omega, HPL3.out, ⟨rfl, (set_same HD.out).symm, Wrote.refl _ _, (lay_zero _ _ _ _).symm, fun _ => rfl, .inl rfl, fun e => e, fun _ => rfl⟩, fun _ e => .inl e, HBk3.out, HBm3.out, HBT3.out, Nat.le_refl _, HT3F.out⟩
  clear HBk3 HBm3 HT3 HPL3 HBT3 HT3F
  obtain ⟨j, Fr, sr, dr, rfl, hgk, hpl, hly, hFr, hbk, hbm, hbt, hsz, htr⟩ := hrel
  have HGK := Lib.hid hgk
  have HPR := Lib.hid hpl
  have HLY := Lib.hid hly
  have HFR := Lib.hid hFr
  have HBK := Lib.hid hbk
  have HBM := Lib.hid hbm
  have HBT3 := Lib.hid hbt
  have HSZ := Lib.hid hsz
  have HTR := Lib.hid htr
  have HDR := Lib.hid (hly.at_ HD.out)
  have HDN := Lib.hid (show dr.n = d.n from hly.wr.n)
  have yj : j ≤ c := by omega
  have HRk := Lib.hid (show ¬ Fr k from fun e => by rcases hFr _ e with e | e; exact HFk.out e; have := HK3.out; omega)
  have HRm := Lib.hid (show ¬ Fr m from fun e => by rcases hFr _ e with e | e; exact HFm.out e; have := HM3.out; omega)
  have HRA := Lib.hid (show ∀ b off, A = some ⟨b, off, none⟩ → ¬ Fr b from fun b off ea e => by rcases hFr _ e with e | e; exact HAF.out b off ea e; have := HAB.out b off ea; omega)
  clear hgk hpl hly hFr hbk hbm hbt hsz htr
  by_cases hlt : j < c
  · have y3 : (j : Int) < (c : Int) := by omega
    have HJ := Lib.hid hlt
    go_upto_region 3 with fail
    refine wp_region_lit ?_
    refine nR (.bool true) (ix_lss rfl rfl rfl (decide_eq_true y3)) ?_;simp only [zz]
    go_upto_region 4 with fail
    refine wp_region_lit ?_
    refine nR (.int .i64 (j : Int)) (exec_move rfl rfl) ?_;simp only [zz];refine nR (.int .i64 (j : Int)) (gx_assign rfl rfl) ?_;simp only [zz]
    go_upto_region 5 with fail
    refine wp_region_lit ?_
    obtain ⟨B5, hB5⟩ : ∃ B, B = wr.heap.size := ⟨_, rfl⟩
    have HB5 := Lib.hid (show w3.heap.size ≤ B5 by rw [hB5]; exact HSZ.out)
    have HB5k := Lib.hid (show k < B5 ∧ m < B5 from ⟨by rw [hB5]; exact HBK.out.lt, by rw [hB5]; exact HBM.out.lt⟩)
    obtain ⟨j0, hj0, hjz, hj1, hj2⟩ := info_parts byteInfo
    obtain ⟨w5, hmk, hown, hg⟩ := run_make_own (P := Tryd.prog) wr B5 38 5 j0 _ 1 Tryd.underlying38 hj0 hjz hj1 .i64 .i64 64 (by rw [hj2]; omega) (by unfold maxLen; omega) (by rw [hB5]; exact Nat.le_refl _)
    have HO := Lib.hid (show Own w5 B5 5 (.slice (some ⟨wr.heap.size, 0, none⟩) 0 64) (encs z t (2 * j) 0) from hown)
    have HT5 := Lib.hid ((Turn.refl nowhere wr).grown hg (fun g e _ => by cases e))
    clear hown hg
    refine nR (_) (gx_make rfl rfl rfl hmk) ?_
    clear hmk hj0 hjz hj1 hj2
    simp only [zz];refine nR (.slice (some ⟨wr.heap.size, 0, none⟩) 0 64) (gx_assign rfl rfl) ?_;simp only [zz]
    go_upto_region 6 with fail
    refine wp_region_lit ?_
    refine nR (.int .i64 (j : Int)) (exec_move rfl rfl) ?_;simp only [zz];refine nR (.int .i64 ((2 * j : Nat) : Int)) (ix_mul rfl rfl rfl (by omega) (by omega)) ?_;simp only [zz];refine nR (.int .i64 ((2 * j : Nat) : Int)) (gx_assign rfl rfl) ?_;simp only [zz]
    have HS5 := Lib.hid (show B5 ≤ w5.heap.size by rw [hB5]; exact HT5.out.size)
    have HBW := Lib.hid (show ∀ W : World, Below B5 wr W → Turn nowhere wr W from fun W hb => Turn.of_below hb (by rw [hB5]; exact Nat.le_refl _))
    have HBE := Lib.hid (show ∀ W : World, Turn nowhere wr W → Below B5 wr W from fun W hb => hb.below (by rw [hB5]; exact Nat.le_refl _) fun _ _ e => e)
    clear hB5
    go_wp2_with fail
    go_loopg [10, 11] 2 (fun gk2 v hv wq => ∃ x : Nat, hv = .int .i64 ((2 * j + x : Nat) : Int) ∧ x + gk2 = 2 ∧ Own wq B5 5 v (encs z t (2 * j) x) ∧ B5 ≤ wq.heap.size ∧ Turn nowhere wr wq)
    case atStart => exact ⟨0, rfl, rfl, HO.out, HS5.out, HT5.out⟩
    clear HO HT5 HS5
    obtain ⟨x, rfl, hgk2, hown, hs5, htq⟩ := hrel
    have HGK2 := Lib.hid hgk2
    have HOW := Lib.hid hown
    have HSQ := Lib.hid hs5
    have HTQ := Lib.hid htq
    have HEL := Lib.hid (encs_len (s := z) (t := t) (h := 2 * j) (c := 2 * c) (by rw [HLT.out]; have := HN.out; omega) x (by omega))
    have HES := Lib.hid (encs_succ z t (2 * j) x)
    have yx : x ≤ 2 := by omega
    clear hgk2 hown hs5 htq
    by_cases hx : x < 2
    · have HX := Lib.hid hx
      go_upto_region 7 with fail
      refine wp_region_lit ?_
      refine nR (.int .i64 ((2 * j + x : Nat) : Int)) (exec_move rfl rfl) ?_;simp only [zz];refine nR (.int .i64 (j : Int)) (exec_move rfl rfl) ?_;simp only [zz];refine nR (.int .i64 ((2 * j : Nat) : Int)) (ix_mul rfl rfl rfl (by omega) (by omega)) ?_;simp only [zz];refine nR (.int .i64 ((2 * j + 2 : Nat) : Int)) (ix_add rfl rfl rfl (by omega) (by omega)) ?_;simp only [zz];refine nR (.bool true) (ix_lss rfl rfl rfl (decide_eq_true (by omega))) ?_;simp only [zz]
      have HBM6 := Lib.hid (HBM.out.turn HTQ.out fun e => e)
      go_upto_region 9 with fail
      refine wp_region_lit ?_
      refine nR (.agg (stA z)) (gx_loads rfl rfl (blk_range HBM6.out) Tryd.underlying67 rfl (by rw [size_st]; rfl)) ?_;simp only [zz];refine nR (.int .i64 ((2 * j + x : Nat) : Int)) (exec_move rfl rfl) ?_;simp only [zz]
      refine wpList_op rfl fun K9 HK9 => ?_
      go_wp2_with fail
      refine (tag_walk' wr z (2 * j + x) HZO.out (by omega)).mono ?_
      rintro e w7 ⟨rfl, ht⟩
      refine HK9.out _ _ ?_
      clear HK9
      try simp only [zz]
      have HT7 := Lib.hid (HTQ.out.trans ht fun _ _ e => e)
      have HOW7 := Lib.hid (HOW.out.still ht)
      have HSZ7 := Lib.hid (Nat.le_trans HSQ.out ht.size)
      clear ht HOW HSQ HTQ HBM6
      refine wpList_run (v := .pointer (some ⟨w7.heap.size, 0, none⟩)) (w' := w7.alloc (.cells (byteCells (List.replicate 12 0)) 95)) (wanted_none rfl) (gx_alloc rfl (zero_tag _)) ?_;simp only [zz]
      have hb_ := Blk.new w7 95 (byteCells (List.replicate 12 0))
      have ht_ := (Turn.refl nowhere w7).alloc (.cells (byteCells (List.replicate 12 0)) 95)
      obtain ⟨u, hg_⟩ : ∃ g, g = w7.heap.size := ⟨_, rfl⟩
      rw [← hg_] at hb_ ⊢
      have HLu := Lib.hid (show w7.heap.size ≤ u from by omega)
      clear hg_
      generalize w7.alloc (.cells (byteCells (List.replicate 12 0)) 95) = w8 at *
      have HBu := Lib.hid hb_
      have HT8 := Lib.hid ht_
      clear hb_ ht_
      refine wpList_store_row (wanted_none rfl) 95 (.tmp 12) (.tmp 35) rfl (byteCells (z.tag (2 * j + x))) HBu.out rfl rfl (by rw [bc_size, bc_size, Wl.tag_len _ _]; rfl) (by rw [size_tag, bc_size, Wl.tag_len _ _]) (bc_one _) ?_
      intro w9 hb_ ht_
      have HBu9 := Lib.hid hb_
      have HT9 := Lib.hid ht_
      clear hb_ ht_
      simp only [zz]
      have HT79 := Lib.hid (HT8.out.trans HT9.out fun k hk e => by have := HLu.out; have e : k = u := e; omega)
      have HT9w := Lib.hid (HT7.out.trans HT79.out fun _ _ e => e)
      have HOW9 := Lib.hid (HOW7.out.still HT79.out)
      have HSZ9 := Lib.hid (Nat.le_trans HSZ7.out HT79.out.size)
      have HBS9 := Lib.hid (show Bs w9 (some ⟨u, 0, none⟩) 12 (z.tag (2 * j + x)) from by
        have := blk_bs HBu9.out (off := 0) (k := 12) (by rw [Wl.tag_len]; omega) (by decide)
        rwa [List.drop_zero, List.take_of_length_le (by rw [Wl.tag_len]; omega)] at this)
      clear HT7 HT8 HT9 HT79 HOW7 HSZ7 HBu HBu9
      go_upto_region 10 with fail
      refine wp_region_lit ?_
      refine nR (u10) (exec_move rfl rfl) ?_;simp only [zz];refine nR (.slice (some ⟨u, 0, none⟩) 12 12) (st_all rfl rfl) ?_;simp only [zz]
      refine wpList_append_bytes w9 (wanted_none rfl) _ _ _ rfl B5 5 byteInfo Tryd.underlying38 _ (encs z t (2 * j) x) rfl HOW9.out (some ⟨u, 0, none⟩) 12 12 _ rfl HBS9.out (fun e => by cases e) (by rw [HEL.out]; omega) HSZ9.out ?_
      intro va wa hoa hba
      have HOA := Lib.hid hoa
      have HTA := Lib.hid (HBW.out wa ((HBE.out w9 HT9w.out).trans hba))
      have HSA := Lib.hid (Nat.le_trans HSZ9.out hba.size)
      clear hoa hba HOW9 HT9w HSZ9 HBS9
      obtain ⟨Aa, na, ca, rfl, -, -, -⟩ := HOA.out.form
      simp only [zz];refine nR (.slice Aa na ca) (gx_assign rfl rfl) ?_;simp only [zz]
      obtain ⟨bA, oA, hAe, -⟩ := HBT3.out.2.2 (by have := HN.out; omega)
      subst hAe
      have HBTA := Lib.hid (HBT3.out.still HTA.out)
      have HSUB := Lib.hid (bs_sub HBTA.out (i := 20 * (2 * j + x)) (k := 20) (by have := HN.out; omega))
      go_upto_region 11 with fail
      refine wp_region_lit ?_
      refine nR (.slice Aa na ca) (exec_move rfl rfl) ?_;simp only [zz];refine nR (.slice (some ⟨bA, oA, none⟩) n cap) (exec_move rfl rfl) ?_;simp only [zz];refine nR (.int .i64 ((2 * j + x : Nat) : Int)) (exec_move rfl rfl) ?_;simp only [zz];refine nR (.int .i64 ((20 * (2 * j + x) : Nat) : Int)) (ix_mul rfl rfl rfl (by omega) (by omega)) ?_;simp only [zz];refine nR (.int .i64 ((2 * j + x : Nat) : Int)) (exec_move rfl rfl) ?_;simp only [zz];refine nR (.int .i64 ((2 * j + x + 1 : Nat) : Int)) (ix_add rfl rfl rfl (by omega) (by omega)) ?_;simp only [zz];refine nR (.int .i64 ((20 * (2 * j + x + 1) : Nat) : Int)) (ix_mul rfl rfl rfl (by omega) (by omega)) ?_;simp only [zz];refine nR (.slice (some ⟨bA, oA + 20 * (2 * j + x), none⟩) 20 (cap - 20 * (2 * j + x))) ((sx_lh (n := n) (c := cap) (i := 20 * (2 * j + x)) (j := 20 * (2 * j + x + 1)) (by omega) (by have h1 := HN.out; have h2 := HCAP.out; omega) (by have h1 := HN.out; have h2 := HCAP.out; omega) rfl rfl rfl rfl).trans (by rw [show 20 * (2 * j + x + 1) - 20 * (2 * j + x) = 20 by omega])) ?_;simp only [zz]
      refine wpList_append_bytes wa (wanted_none rfl) _ _ _ rfl B5 5 byteInfo Tryd.underlying38 _ (encs z t (2 * j) x ++ z.tag (2 * j + x)) rfl HOA.out _ 20 _ _ rfl HSUB.out (fun e => by cases e) (by rw [List.length_append, HEL.out, Wl.tag_len]; omega) HSA.out ?_
      intro vb wb hob hbb
      have HOB := Lib.hid (show Own wb B5 5 vb (encs z t (2 * j) (x + 1)) from by rw [HES.out]; rw [List.append_assoc] at hob; exact hob)
      have HTB := Lib.hid (HBW.out wb ((HBE.out wa HTA.out).trans hbb))
      have HSB := Lib.hid (Nat.le_trans HSA.out hbb.size)
      clear hob hbb HOA HTA HSA HSUB HBTA
      simp only [zz];refine nR (vb) (gx_assign rfl rfl) ?_;simp only [zz]
      go_upto_region 8 with fail
      refine wp_region_lit ?_
      refine nR (.int .i64 ((2 * j + x : Nat) : Int)) (exec_move rfl rfl) ?_;simp only [zz];refine nR (.int .i64 ((2 * j + (x + 1) : Nat) : Int)) (ix_add rfl rfl rfl (by omega) (by omega)) ?_;simp only [zz];refine nR (.int .i64 ((2 * j + (x + 1) : Nat) : Int)) (gx_assign rfl rfl) ?_;simp only [zz]
      go_wp2_with fail
      go_roundg (2 - (x + 1))
      case measure => have := HGK2.out; have := HX.out; omega
      case rel => exact ⟨x + 1, rfl, by have := HX.out; omega, HOB.out, HSB.out, HTB.out⟩
    · obtain rfl : x = 2 := by omega
      go_upto_region 7 with fail
      refine wp_region_lit ?_
      refine nR (.int .i64 ((2 * j + 2 : Nat) : Int)) (exec_move rfl rfl) ?_;simp only [zz];refine nR (.int .i64 (j : Int)) (exec_move rfl rfl) ?_;simp only [zz];refine nR (.int .i64 ((2 * j : Nat) : Int)) (ix_mul rfl rfl rfl (by omega) (by omega)) ?_;simp only [zz];refine nR (.int .i64 ((2 * j + 2 : Nat) : Int)) (ix_add rfl rfl rfl (by omega) (by omega)) ?_;simp only [zz];refine nR (.bool false) (ix_lss rfl rfl rfl (decide_eq_false (by omega))) ?_;simp only [zz]
      obtain ⟨A6, n6, c6, rfl, hb6, -, -⟩ := HOW.out.form
      have hn6 : n6 = 64 := by rw [← hb6.1, HEL.out]
      subst hn6
      rw [encs_two] at hb6
      have HB6 := Lib.hid hb6
      have HPQ := Lib.hid (HPR.out.turn HTQ.out fun _ _ e => e)
      have HBKQ := Lib.hid (HBK.out.turn HTQ.out fun e => e)
      have HBMQ := Lib.hid (HBM.out.turn HTQ.out fun e => e)
      have HBTQ := Lib.hid (HBT3.out.still HTQ.out)
      have HTRQ := Lib.hid (HTR.out.trans (HTQ.out.mono fun _ _ e => e.elim) fun _ _ e => e)
      have HSZQ := Lib.hid (Nat.le_trans HSZ.out HTQ.out.size)
      have HFRQ := Lib.hid (show ∀ b, w.heap.size ≤ b ∨ F b → w.heap.size ≤ b ∨ F b from fun _ e => e)
      clear hb6 HOW HPR HBK HBM HBT3 HTQ HTR
      go_upto_region 12 with fail
      refine wp_region_lit ?_
      refine nR (.pointer (some ⟨k, 0, none⟩)) (exec_field (off := 0) (d := 0) rfl rfl (by kernel_rfl)) ?_;simp only [zz];refine nR (.pointer (some ⟨p, 0, none⟩)) (exec_load1 rfl rfl (by kernel_rfl) (HBKQ.out.cell 0)) ?_;simp only [zz];refine nR (.pointer (some ⟨k, 1, none⟩)) (exec_field (off := 0) (d := 1) rfl rfl (by kernel_rfl)) ?_;simp only [zz];refine nR (.int .i64 (i : Int)) (exec_load1 rfl rfl (by kernel_rfl) (HBKQ.out.cell 1)) ?_;simp only [zz];refine nR (.int .i64 (P : Int)) (exec_move rfl rfl) ?_;simp only [zz];refine nR (.int .i64 (j : Int)) (exec_move rfl rfl) ?_;simp only [zz];refine nR (.int .i64 ((P + j : Nat) : Int)) (ix_add rfl rfl rfl (by omega) (by omega)) ?_;simp only [zz];refine nR (.slice A6 64 c6) (exec_move rfl rfl) ?_;simp only [zz]
      cases hon : s.on
      · refine wpList_op rfl fun K9 HK9 => ?_
        go_wp2_with fail
        refine (write_bad HPQ.out (i : Int) ((P + j : Nat) : Int) 2 (.inl ⟨by simp [refuseCode, HLY.out.on, hon], .inl rfl⟩) A6 64 c6).mono ?_
        rintro e wr ⟨rfl, rfl⟩
        refine HK9.out _ _ ?_
        clear HK9
        try simp only [zz]
        refine nR (.int .i64 2) (gx_assign rfl rfl) ?_;simp only [zz]
        go_upto_region 13 with fail
        refine wp_region_lit ?_
        refine nR (.int .i64 2) (exec_move rfl rfl) ?_;simp only [zz];refine nR (.bool true) (ix_neq rfl rfl rfl (by decide)) ?_;simp only [zz]
        go_upto_region 14 with fail
        refine wp_region_lit ?_
        refine nR (.int .i64 2) (exec_move rfl rfl) ?_;simp only [zz];refine nR (.int .i64 2) (gx_assign rfl rfl) ?_;simp only [zz]
        go_wp2_with fail
        go_ret
        exact ⟨2, sr, rfl, HLY.out.off hon, Fr, HPQ.out.mono (by omega), HTRQ.out, fun b e => (HFR.out b e).imp id fun e => Nat.le_trans HS3.out e⟩
      · have hon2 : sr.on = true := HLY.out.on.trans hon
        by_cases hf0 : sr.fuse = 0
        · refine wpList_op rfl fun K9 HK9 => ?_
          go_wp2_with fail
          refine (write_burn HPQ.out i dr HDR.out hon2 ((P + j : Nat) : Int) ⟨by omega, by rw [HDN.out]; have := HPN.out; omega⟩ hf0 A6 c6).mono ?_
          rintro e w9 ⟨rfl, hgo⟩
          refine HK9.out _ _ ?_
          clear HK9
          try simp only [zz]
          obtain ⟨F9, hp9, ht9, hf9⟩ := hgo
          refine nR (.int .i64 2) (gx_assign rfl rfl) ?_;simp only [zz]
          go_upto_region 13 with fail
          refine wp_region_lit ?_
          refine nR (.int .i64 2) (exec_move rfl rfl) ?_;simp only [zz];refine nR (.bool true) (ix_neq rfl rfl rfl (by decide)) ?_;simp only [zz]
          go_upto_region 14 with fail
          refine wp_region_lit ?_
          refine nR (.int .i64 2) (exec_move rfl rfl) ?_;simp only [zz];refine nR (.int .i64 2) (gx_assign rfl rfl) ?_;simp only [zz]
          go_wp2_with fail
          go_ret
          exact ⟨2, sr.burn, rfl, HLY.out.burn hf0, F9, hp9.mono (by omega), HTRQ.out.trans ht9 (fun b hb e => (HFR.out b e).elim id fun e => absurd hb (by have := HS3.out; omega)), fun b e => (hf9 b e).elim (fun e => (HFR.out b e).imp id fun e => Nat.le_trans HS3.out e) fun e => .inr (Nat.le_trans (Nat.le_trans HS3.out HSZQ.out) e)⟩
        · have HSEC := Lib.hid (Wl.enc_len (s := z) (t := t) (c := c) (i := j) (by rw [HLT.out, HN.out]) HJ.out)
          have HLP := Lib.hid (HLY.out.put hon hf0 (P + j) ⟨enc z t j, HSEC.out⟩ (HIN.out j HJ.out).symm)
          rw [lay_succ] at HLP
          refine wpList_op rfl fun K9 HK9 => ?_
          go_wp2_with fail
          refine (write_ok HPQ.out i dr HDR.out hon2 ((P + j : Nat) : Int) ⟨by omega, by rw [HDN.out]; have := HPN.out; omega⟩ hf0 A6 c6 ⟨enc z t j, HSEC.out⟩ HB6.out (by omega)).mono ?_
          rintro e w9 ⟨rfl, hgo⟩
          refine HK9.out _ _ ?_
          clear HK9
          try simp only [zz]
          obtain ⟨F9, hp9, ht9, hf9⟩ := hgo
          have HP9 := Lib.hid hp9
          have HT9 := Lib.hid (HTRQ.out.trans ht9 (fun b hb e => (HFR.out b e).elim id fun e => absurd hb (by have := HS3.out; omega)))
          have HF9 := Lib.hid (show ∀ b, F9 b → F b ∨ w3.heap.size ≤ b from fun b e => (hf9 b e).elim (HFR.out b) fun e => .inr (Nat.le_trans HSZQ.out e))
          have HBK9 := Lib.hid (HBKQ.out.turn ht9 HRk.out)
          have HBM9 := Lib.hid (HBMQ.out.turn ht9 HRm.out)
          have HBT9 := Lib.hid (HBTQ.out.turn ht9 fun b off _ ea => HRA.out b off ea)
          have HSZ9 := Lib.hid (Nat.le_trans HSZQ.out ht9.size)
          clear hp9 ht9 hf9
          refine nR (.int .i64 0) (gx_assign rfl rfl) ?_;simp only [zz]
          go_upto_region 13 with fail
          refine wp_region_lit ?_
          refine nR (.int .i64 0) (exec_move rfl rfl) ?_;simp only [zz];refine nR (.bool false) (ix_neq rfl rfl rfl (by decide)) ?_;simp only [zz]
          go_upto_region 15 with fail
          refine wp_region_lit ?_
          refine nR (.int .i64 ((j + 1 : Nat) : Int)) (ix_add rfl rfl rfl (by omega) (by omega)) ?_;simp only [zz];refine nR (.int .i64 ((j + 1 : Nat) : Int)) (exec_move rfl rfl) ?_;simp only [zz]
          go_wp2_with fail
          go_roundg (c - (j + 1))
          case measure => have := HGK.out; have := HJ.out; omega
          case rel => exact ⟨j + 1, F9, _, _, rfl, by have := HJ.out; omega, HP9.out, HLP.out, HF9.out, HBK9.out, HBM9.out, HBT9.out, HSZ9.out, HT9.out⟩
  · obtain rfl : j = c := by omega
    have hon : s.on = true := HLY.out.go.resolve_left (by omega)
    have hon2 : sr.on = true := HLY.out.on.trans hon
    have HLF := Lib.hid (show Lay1 N i d s N j sr dr from by have h := HLY.out; rw [← HNN.out] at h; exact h)
    go_upto_region 3 with fail
    refine wp_region_lit ?_
    refine nR (.bool false) (ix_lss rfl rfl rfl (decide_eq_false (by omega))) ?_;simp only [zz]
    go_upto_region 16 with fail
    refine wp_region_lit ?_
    refine nR (.pointer (some ⟨k, 0, none⟩)) (exec_field (off := 0) (d := 0) rfl rfl (by kernel_rfl)) ?_;simp only [zz];refine nR (.pointer (some ⟨p, 0, none⟩)) (exec_load1 rfl rfl (by kernel_rfl) (HBK.out.cell 0)) ?_;simp only [zz];refine nR (.pointer (some ⟨k, 1, none⟩)) (exec_field (off := 0) (d := 1) rfl rfl (by kernel_rfl)) ?_;simp only [zz];refine nR (.int .i64 (i : Int)) (exec_load1 rfl rfl (by kernel_rfl) (HBK.out.cell 1)) ?_;simp only [zz]
    by_cases hf0 : sr.fuse = 0
    · refine wpList_op rfl fun K9 HK9 => ?_
      go_wp2_with fail
      refine (flush_burn HPR.out i dr HDR.out hon2 hf0).mono ?_
      rintro e w9 ⟨rfl, hgo⟩
      refine HK9.out _ _ ?_
      clear HK9
      try simp only [zz]
      refine nR (.int .i64 2) (gx_assign rfl rfl) ?_;simp only [zz]
      obtain ⟨F9, hp9, ht9, hf9⟩ := hgo
      go_wp2_with fail
      go_ret
      exact ⟨2, sr.burn, rfl, HLF.out.burn hf0, F9, hp9.mono (by omega), HTR.out.trans ht9 (fun b hb e => (HFR.out b e).elim id fun e => absurd hb (by have := HS3.out; omega)), fun b e => (hf9 b e).elim (fun e => (HFR.out b e).imp id fun e => Nat.le_trans HS3.out e) fun e => .inr (Nat.le_trans (Nat.le_trans HS3.out HSZ.out) e)⟩
    · refine wpList_op rfl fun K9 HK9 => ?_
      go_wp2_with fail
      refine (flush_ok HPR.out i dr HDR.out hon2 hf0 (by omega)).mono ?_
      rintro e w9 ⟨rfl, hgo⟩
      refine HK9.out _ _ ?_
      clear HK9
      try simp only [zz]
      refine nR (.int .i64 0) (gx_assign rfl rfl) ?_;simp only [zz]
      obtain ⟨F9, hp9, ht9, hf9⟩ := hgo
      go_wp2_with fail
      go_ret
      exact ⟨0, sr.flushed i dr, rfl, HLF.out.flush hon hf0, F9, hp9.mono (by omega), HTR.out.trans ht9 (fun b hb e => (HFR.out b e).elim id fun e => absurd hb (by have := HS3.out; omega)), fun b e => (hf9 b e).elim (fun e => (HFR.out b e).imp id fun e => Nat.le_trans HS3.out e) fun e => .inr (Nat.le_trans (Nat.le_trans HS3.out HSZ.out) e)⟩
end Go.Proofs.YtelipeoilcepbaaDoor
