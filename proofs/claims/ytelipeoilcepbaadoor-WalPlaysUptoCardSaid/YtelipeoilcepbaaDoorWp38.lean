/-
  Texts in one file: WmPd. Conditions: the tables and the errors read as the program's text lays them.
-/
import Derived.Test.YtelipeoilcepbaaDoorWp0
import Derived.Test.YtelipeoilcepbaaDoorWp37
namespace Go.Proofs.YtelipeoilcepbaaDoor
open Go.RowKit
open Wl (B8)
set_option linter.unusedVariables false
set_option linter.unusedSimpArgs false
set_option maxRecDepth 20000
instance (S : Nat) (l : Wl.Rec) (L : List Wl.Rec) : Decidable (Fits9 S l L) := by unfold Fits9; infer_instance
theorem mostC_le {c : Nat} : ∀ (L : List Wl.Rec), c ≤ 64 → (∀ l ∈ L, ¬ Wl.long l) → mostC c L ≤ 64
  | [], h, _ => h
  | x :: L, h, hl => mostC_le (c := max c (Wl.cost x)) L (by have := cost_le (hl x (List.mem_cons_self ..)); omega) fun l hm => hl l (List.mem_cons_of_mem _ hm)
theorem sumC_le {c : Nat} : ∀ (L : List Wl.Rec), (∀ l ∈ L, ¬ Wl.long l) → sumC c L ≤ c + 64 * L.length
  | [], _ => Nat.le_refl _
  | x :: L, hl => by
    have h1 := cost_le (hl x (List.mem_cons_self ..))
    have h2 := sumC_le (c := c + Wl.cost x) L fun l hm => hl l (List.mem_cons_of_mem _ hm)
    have h3 : (x :: L).length = L.length + 1 := rfl
    show sumC (c + Wl.cost x) L ≤ _
    omega
theorem mostC_snoc (c : Nat) (L : List Wl.Rec) (l : Wl.Rec) : mostC c (L ++ [l]) = max (mostC c L) (Wl.cost l) := by unfold mostC; rw [List.foldl_append]; rfl
theorem sumC_snoc (c : Nat) (L : List Wl.Rec) (l : Wl.Rec) : sumC c (L ++ [l]) = sumC c L + Wl.cost l := by unfold sumC; rw [List.foldl_append]; rfl
theorem mul_in {p q : Int} (hp : 0 ≤ p) (hp2 : p ≤ 65) (hq : 0 ≤ q) (hq2 : q ≤ 1000) : -9223372036854775808 ≤ p * q ∧ p * q ≤ 9223372036854775807 := by
  have h1 : 0 ≤ p * q := Int.mul_nonneg hp hq
  have h2 : p * q ≤ 65 * 1000 := Int.mul_le_mul hp2 hq2 hq (by decide)
  omega
set_option maxRecDepth 20000 in
set_option maxHeartbeats 4000000 in
theorem fits_walk {w : World} {b f : Nat} {A0 : Option Addr} {c0 : Nat} {Z : Nat → Prop} {L : List Wl.Rec} {A : Option Addr} {n c : Nat} {l : Wl.Rec} {sn S : Nat} (hb : Blk w b BKT #[.int .i64 (f : Int), .slice A0 L.length c0]) (hg : GsZ w Z (.slice A0 L.length c0) L) (h1 : Ls w A n l) (hl : ¬ Wl.long l) (hL : ∀ x ∈ L, ¬ Wl.long x) (hn : L.length ≤ 1000) (hS : S = (sn - 2) / 64) (hS3 : 3 ≤ S) (hsn : sn ≤ 700) :
    Calls Tryd.prog 10 #[.pointer (some ⟨b, 0, none⟩), .slice A n c, .int .i64 (sn : Int)] w fun r w' => r = .returned (.bool (decide (Fits9 S l L))) ∧ w' = w := by
  obtain ⟨q, hq⟩ : ∃ q, q = L.length := ⟨_, rfl⟩
  have HQ := Lib.hid hq
  rw [← hq] at hb hg hn
  have HB := Lib.hid hb
  have HG := Lib.hid hg
  have HA := Lib.hid h1
  have HL := Lib.hid hl
  have HLL := Lib.hid hL
  have HCL := Lib.hid (cost_le hl)
  have HS := Lib.hid hS
  have yq : q ≤ 1000 := hn
  have ysn : sn ≤ 700 := hsn
  have HS3 := Lib.hid hS3
  clear hb hg h1 hl hL hn hS hS3 hsn hq
  go_enter Tryd.func10, Tryd.ntmps10
  go_upto_region 0 with fail
  refine wp_region_lit ?_
  refine nR (.bool false) (gx_assign rfl rfl) ?_;simp only [zz]
  go_upto_region 1 with fail
  refine wp_region_lit ?_
  refine nR (.slice A n c) (exec_move rfl rfl) ?_;simp only [zz]
  refine wpList_op rfl fun K9 HK9 => ?_
  go_wp2_with fail
  refine (cost_walk (c := c) HA.out HL.out).mono ?_
  rintro e w ⟨rfl, rfl⟩
  refine HK9.out _ _ ?_
  clear HK9
  try simp only [zz]
  obtain ⟨ct, hct⟩ : ∃ z, z = Wl.cost l := ⟨_, rfl⟩
  have HCT := Lib.hid hct
  have yct : ct ≤ 64 := by rw [hct]; exact HCL.out
  rw [← hct]
  clear hct HCL
  refine nR (.int .i64 (ct : Int)) (gx_assign rfl rfl) ?_;simp only [zz]
  go_upto_region 2 with fail
  refine wp_region_lit ?_
  refine nR (.int .i64 (ct : Int)) (exec_move rfl rfl) ?_;simp only [zz];refine nR (.int .i64 (ct : Int)) (gx_assign rfl rfl) ?_;simp only [zz]
  go_upto_region 3 with fail
  refine wp_region_lit ?_
  refine nR (.int .i64 0) (gx_assign rfl rfl) ?_;simp only [zz]
  go_wp2_with fail
  go_loopg [7, 8, 9, 10] q (fun gk mv sv iv cv wr => ∃ (i ms ss : Nat), mv = .int .i64 (ms : Int) ∧ sv = .int .i64 (ss : Int) ∧ iv = .int .i64 (i : Int) ∧ i + gk = q ∧ wr = w ∧ ms = mostC ct (L.take i) ∧ ss = sumC ct (L.take i))
  case atStart => exact ⟨0, ct, ct, rfl, rfl, rfl, by omega, rfl, rfl, rfl⟩
  obtain ⟨i, ms, ss, rfl, rfl, rfl, hgk, rfl, hms, hss⟩ := hrel
  have HGK := Lib.hid hgk
  have HMS := Lib.hid hms
  have HSS := Lib.hid hss
  have yms : ms ≤ 64 := by rw [hms]; exact mostC_le _ yct fun l hl => HLL.out l (List.mem_of_mem_take hl)
  have yss : ss ≤ 64 + 64 * 1000 := by
    rw [hss]
    have h1 := sumC_le (c := ct) (L.take i) fun l hl => HLL.out l (List.mem_of_mem_take hl)
    have h2 : (L.take i).length ≤ L.length := by rw [List.length_take]; omega
    have h3 := HQ.out
    omega
  clear hgk hms hss
  by_cases hlt : i < q
  · have HLT := Lib.hid hlt
    have y1 : (i : Int) < (q : Int) := by omega
    obtain ⟨x, hx⟩ : ∃ x, L[i]? = some x := ⟨L[i]'(by have := HQ.out; omega), List.getElem?_eq_getElem _⟩
    obtain ⟨g, off, u, rfl, hcell, hlz⟩ := HG.out.at_ hx
    obtain ⟨A1, c1, rfl, hls, _⟩ := hlz.ls
    have hnl := HLL.out x (List.mem_of_getElem? hx)
    have HCE := Lib.hid hcell
    have HLS := Lib.hid hls
    have HNL := Lib.hid hnl
    have HCX := Lib.hid (cost_le hnl)
    have HTK := Lib.hid (show L.take (i + 1) = L.take i ++ [x] from by rw [List.take_add_one, hx]; rfl)
    obtain ⟨xl, hxl⟩ : ∃ xl, xl = x.length := ⟨_, rfl⟩
    rw [← hxl] at HCE HLS
    clear hcell hlz hls hnl hx hlt hxl
    go_upto_region 4 with fail
    refine wp_region_lit ?_
    refine nR (.int .i64 (i : Int)) (exec_move rfl rfl) ?_;simp only [zz];refine nR (.pointer (some ⟨b, 0, none⟩)) (exec_move rfl rfl) ?_;simp only [zz];refine nR (.pointer (some ⟨b, 0, none⟩)) (exec_nil rfl rfl) ?_;simp only [zz];refine nR (.pointer (some ⟨b, 1, none⟩)) (exec_field (off := 0) (d := 1) rfl rfl (by kernel_rfl)) ?_;simp only [zz];refine nR (.slice (some ⟨g, off, none⟩) q c0) (exec_load1 rfl rfl (by kernel_rfl) (HB.out.cell 1)) ?_;simp only [zz];refine nR (.int .i64 (q : Int)) (gx_len rfl rfl Tryd.underlying30) ?_;simp only [zz];refine nR (.bool true) (ix_lss rfl rfl rfl (decide_eq_true y1)) ?_;simp only [zz]
    go_upto_region 6 with fail
    refine wp_region_lit ?_
    refine nR (.pointer (some ⟨b, 0, none⟩)) (exec_move rfl rfl) ?_;simp only [zz];refine nR (.pointer (some ⟨b, 0, none⟩)) (exec_nil rfl rfl) ?_;simp only [zz];refine nR (.pointer (some ⟨b, 1, none⟩)) (exec_field (off := 0) (d := 1) rfl rfl (by kernel_rfl)) ?_;simp only [zz];refine nR (.slice (some ⟨g, off, none⟩) q c0) (exec_load1 rfl rfl (by kernel_rfl) (HB.out.cell 1)) ?_;simp only [zz];refine nR (.int .i64 (i : Int)) (exec_move rfl rfl) ?_;simp only [zz];refine nR (.pointer (some ⟨g, off + i * 1, none⟩)) (gx_iaddr (i := i) (sz := 1) rfl rfl rfl Tryd.underlying30 size_G8 HLT.out rfl) ?_;simp only [zz];refine nR (.slice A1 xl c1) (exec_load1 rfl rfl (by kernel_rfl) HCE.out) ?_;simp only [zz]
    refine wpList_op rfl fun K9 HK9 => ?_
    go_wp2_with fail
    refine (cost_walk (c := c1) HLS.out HNL.out).mono ?_
    rintro e w ⟨rfl, rfl⟩
    refine HK9.out _ _ ?_
    clear HK9
    try simp only [zz]
    obtain ⟨cx, hcx⟩ : ∃ z, z = Wl.cost x := ⟨_, rfl⟩
    have ycx : cx ≤ 64 := by rw [hcx]; exact HCX.out
    have HCX2 := Lib.hid hcx
    rw [← hcx]
    clear hcx HCX
    refine nR (.int .i64 (cx : Int)) (gx_assign rfl rfl) ?_;simp only [zz]
    go_upto_region 7 with fail
    refine wp_region_lit ?_
    refine nR (.int .i64 (ms : Int)) (exec_move rfl rfl) ?_;simp only [zz];refine nR (.int .i64 (cx : Int)) (exec_move rfl rfl) ?_;simp only [zz];refine nR (.int .i64 ((max ms cx : Nat) : Int)) (gx_max rfl rfl rfl rfl (by split <;> omega)) ?_;simp only [zz];refine nR (.int .i64 ((max ms cx : Nat) : Int)) (gx_assign rfl rfl) ?_;simp only [zz]
    obtain ⟨m2, hm2⟩ : ∃ m2, m2 = max ms cx := ⟨_, rfl⟩
    have HM2 := Lib.hid (show m2 = mostC ct (L.take (i + 1)) from by rw [HTK.out, mostC_snoc, ← HMS.out, ← HCX2.out, hm2])
    rw [← hm2]
    clear hm2
    go_upto_region 8 with fail
    refine wp_region_lit ?_
    refine nR (.int .i64 (ss : Int)) (exec_move rfl rfl) ?_;simp only [zz];refine nR (.int .i64 (cx : Int)) (exec_move rfl rfl) ?_;simp only [zz];refine nR (.int .i64 ((ss + cx : Nat) : Int)) (ix_add rfl rfl rfl (by omega) (by omega)) ?_;simp only [zz];refine nR (.int .i64 ((ss + cx : Nat) : Int)) (gx_assign rfl rfl) ?_;simp only [zz]
    have HS2 := Lib.hid (show ss + cx = sumC ct (L.take (i + 1)) from by rw [HTK.out, sumC_snoc, ← HSS.out, ← HCX2.out])
    go_upto_region 5 with fail
    refine wp_region_lit ?_
    refine nR (.int .i64 (i : Int)) (exec_move rfl rfl) ?_;simp only [zz];refine nR (.int .i64 ((i + 1 : Nat) : Int)) (ix_add rfl rfl rfl (by omega) (by omega)) ?_;simp only [zz];refine nR (.int .i64 ((i + 1 : Nat) : Int)) (gx_assign rfl rfl) ?_;simp only [zz]
    go_wp2_with fail
    go_roundg (gk - 1)
    case measure => have := HGK.out; have := HLT.out; omega
    case rel => exact ⟨i + 1, m2, ss + cx, rfl, rfl, rfl, by have := HGK.out; have := HLT.out; omega, rfl, HM2.out, HS2.out⟩
  · have y1 : ¬ (i : Int) < (q : Int) := by omega
    have htk : L.take i = L := List.take_of_length_le (by have := HQ.out; omega)
    have HM := Lib.hid (show ms = mostC ct L from by rw [HMS.out, htk])
    have HU := Lib.hid (show ss = sumC ct L from by rw [HSS.out, htk])
    have ySS : 3 ≤ S ∧ S ≤ 10 := by have := HS3.out; have := HS.out; omega
    have HDV := Lib.hid (show (((sn - 2 : Nat) / 64 : Nat) : Int) = (S : Int) from by rw [HS.out])
    have HFD := Lib.hid (show decide ((ss : Int) ≤ (65 - (ms : Int)) * ((S : Int) - 2)) = decide (Fits9 S l L) from decide_eq_decide.2 (by unfold Fits9; rw [← HCT.out, ← HM.out, ← HU.out]))
    have HSN := Lib.hid (show 2 ≤ sn from by have := HS3.out; have := HS.out; omega)
    clear hlt htk
    go_upto_region 4 with fail
    refine wp_region_lit ?_
    refine nR (.int .i64 (i : Int)) (exec_move rfl rfl) ?_;simp only [zz];refine nR (.pointer (some ⟨b, 0, none⟩)) (exec_move rfl rfl) ?_;simp only [zz];refine nR (.pointer (some ⟨b, 0, none⟩)) (exec_nil rfl rfl) ?_;simp only [zz];refine nR (.pointer (some ⟨b, 1, none⟩)) (exec_field (off := 0) (d := 1) rfl rfl (by kernel_rfl)) ?_;simp only [zz];refine nR (.slice A0 q c0) (exec_load1 rfl rfl (by kernel_rfl) (HB.out.cell 1)) ?_;simp only [zz];refine nR (.int .i64 (q : Int)) (gx_len rfl rfl Tryd.underlying30) ?_;simp only [zz];refine nR (.bool false) (ix_lss rfl rfl rfl (decide_eq_false y1)) ?_;simp only [zz]
    obtain ⟨pm, hpm⟩ : ∃ pm : Int, pm = 65 - (ms : Int) := ⟨_, rfl⟩
    obtain ⟨pq, hpq⟩ : ∃ pq : Int, pq = (S : Int) - 2 := ⟨_, rfl⟩
    rw [← hpm, ← hpq] at HFD
    have HPM := Lib.hid hpm.symm
    have HPQ := Lib.hid hpq.symm
    have HMI := Lib.hid (mul_in (p := pm) (q := pq) (by omega) (by omega) (by omega) (by omega))
    obtain ⟨pr, hpr⟩ : ∃ pr : Int, pr = pm * pq := ⟨_, rfl⟩
    rw [← hpr] at HFD HMI
    have HPR := Lib.hid hpr.symm
    clear hpm hpq hpr
    go_upto_region 9 with fail
    refine wp_region_lit ?_
    refine nR (.int .i64 (ss : Int)) (exec_move rfl rfl) ?_;simp only [zz];refine nR (.int .i64 (ms : Int)) (exec_move rfl rfl) ?_;simp only [zz];refine nR (.int .i64 pm) (ix_sub rfl rfl rfl HPM.out (by have := HPM.out; omega)) ?_;simp only [zz];refine nR (.int .i64 (sn : Int)) (exec_move rfl rfl) ?_;simp only [zz];refine nR (.int .i64 ((sn - 2 : Nat) : Int)) (ix_sub rfl rfl rfl (by have := HSN.out; omega) (by omega)) ?_;simp only [zz];refine nR (.int .i64 (S : Int)) ((wx_quo (m := 64) rfl rfl rfl (by decide) (by omega)).trans (by rw [HDV.out])) ?_;simp only [zz];refine nR (.int .i64 pq) (ix_sub rfl rfl rfl HPQ.out (by have := HPQ.out; omega)) ?_;simp only [zz];refine nR (.int .i64 pr) (ix_mul rfl rfl rfl HPR.out HMI.out) ?_;simp only [zz];refine nR (.bool (decide (Fits9 S l L))) (ix_leq rfl rfl rfl HFD.out) ?_;simp only [zz];refine nR (.bool (decide (Fits9 S l L))) (gx_assign rfl rfl) ?_;simp only [zz]
    go_wp2_with fail
    go_ret
    exact ⟨rfl, rfl⟩
end Go.Proofs.YtelipeoilcepbaaDoor
