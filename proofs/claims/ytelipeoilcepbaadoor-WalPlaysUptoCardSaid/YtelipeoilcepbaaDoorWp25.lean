/-
  Texts in one file: WmB. Conditions: the tables and the errors read as the program's text lays them.
-/
import Derived.Test.YtelipeoilcepbaaDoorWp0
import Derived.Test.YtelipeoilcepbaaDoorWp22
namespace Go.Proofs.YtelipeoilcepbaaDoor
open Go.RowKit
open Wl (B8)
set_option linter.unusedVariables false
set_option linter.unusedSimpArgs false
set_option maxRecDepth 20000
def WalV.pick (v : WalV) (c : Nat) : Option (Nat × Nat) := if v.used + c ≤ 64 then some (v.seg, v.used) else (freeK v v.held.length).map fun sg => (sg, 0)
theorem build_st3 (a b c : Int) (W : World) : (Instr.build 67 #[(0, .int .i64 a), (1, .int .i64 b), (2, .int .i64 c)]).run Tryd.prog W = .ok (.agg #[.int .i64 a, .int .i64 b, .int .i64 c, .int .i64 0]) W := by kernel_rfl
theorem freeK_lt {v : WalV} {k j : Nat} (h : freeK v k = some j) : j < k := by
  have := List.mem_of_find?_eq_some h
  exact List.mem_range.1 this
def AppendP (w : World) (F : Nat → Prop) (x p i : Nat) (v : WalV) (vP vH : Value) (d : AD) (s : AP) (K : Nat) (l : List B8) (r : Ending) (w' : World) : Prop :=
  (Wl.long l ∧ r = .returned (.tuple #[.int .i64 0, .int .i64 5]) ∧ Turn nowhere w w') ∨
  (¬ Wl.long l ∧ v.pick (Wl.cost l) = none ∧ r = .returned (.tuple #[.int .i64 0, .int .i64 3]) ∧ Turn nowhere w w') ∨
  (¬ Wl.long l ∧ ∃ sg us e s' F', v.pick (Wl.cost l) = some (sg, us) ∧
    WLaid (Wl.lay (dkD d) (2 + 64 * sg + us) (Wl.cost l) (Wl.ast Crc.sumN v.age (v.first + v.places.length) l) (Wl.pack l)) i d s e s' ∧
    PlantAt w' p F' s' (K + Wl.cost l + 1) ∧ Turn (fun b => F b ∨ WalG x vP vH b) w w' ∧ (∀ b, F' b → F b ∨ w.heap.size ≤ b) ∧
    ((e = 0 ∧ r = .returned (.tuple #[.int .i64 ((v.first + v.places.length : Nat) : Int), .int .i64 0]) ∧ ∃ vP', WalB w' x p i (v.add (2 + 64 * sg + us) (Wl.cost l)) vP' vH ∧ (∀ b, WalG x vP' vH b → ¬ F' b) ∧ (∀ b, vP'.ownBlock = some b → vP.ownBlock = some b ∨ w.heap.size ≤ b)) ∨
     (e ≠ 0 ∧ r = .returned (.tuple #[.int .i64 0, .int .i64 e]) ∧ WalB w' x p i v vP vH)))
set_option maxRecDepth 20000 in
set_option maxHeartbeats 4000000 in
theorem Append_walk {w : World} {x p i : Nat} {v : WalV} {vP vH : Value} (h : WalB w x p i v vP vH) {F : Nat → Prop} {s : AP} {K : Nat} (hp : PlantAt w p F s K) (htab : Tab w) (d : AD) (hd : s.ds[i]? = some d) (hG : ∀ b, WalG x vP vH b → ¬ F b) (A : Option Addr) (n cap : Nat) (l : List B8) (hl : Ls w A n l)
    (hag : v.age ≤ 1099511627776) (hfi : v.first ≤ 1099511627776) (hpl : v.places.length < 1099511627776) (hS : ((2 + 64 * v.held.length : Nat) : Int) ≤ d.n) (hsg : v.seg < v.held.length) (hus : v.used ≤ 64) (hhe : ∀ k, v.held.getD k 0 ≤ 1099511627776) (hK : K + 66 < 1099511627775) :
    Calls Tryd.prog 8 #[.pointer (some ⟨x, 0, none⟩), .slice A n cap] w fun r w' => AppendP w F x p i v vP vH d s K l r w' := by
  have H := Lib.hid h
  have HPL := Lib.hid hp
  have HTAB := Lib.hid htab
  have HD := Lib.hid hd
  have HG := Lib.hid hG
  have HL := Lib.hid hl
  have HSS := Lib.hid hS
  have HHE := Lib.hid hhe
  have HLEN := Lib.hid hl.1
  have hdn := hp.dn hd
  have ySS : 2 + 64 * v.held.length ≤ 65536 := by omega
  have HPK := Lib.hid (show v.pick (Wl.cost l) = if v.used + Wl.cost l ≤ 64 then some (v.seg, v.used) else (freeK v v.held.length).map fun sg => (sg, 0) from rfl)
  clear h hp htab hd hG hl hS hhe hdn
  go_enter Tryd.func8, Tryd.ntmps8
  go_upto_region 0 with fail
  refine wp_region_lit ?_
  refine nR (.int .i64 0) (gx_assign rfl rfl) ?_;simp only [zz];refine nR (.int .i64 0) (gx_assign rfl rfl) ?_;simp only [zz]
  go_upto_region 1 with fail
  refine wp_region_lit ?_
  refine nR (.slice A n cap) (exec_move rfl rfl) ?_;simp only [zz]
  refine wpList_op rfl fun K9 HK9 => ?_
  go_wp2_with fail
  refine (isLong_walk w A n cap l HL.out).mono ?_
  rintro e w1 ⟨rfl, ht⟩
  refine HK9.out _ _ ?_
  clear HK9
  try simp only [zz]
  have HT1 := Lib.hid ht
  clear ht
  by_cases hlong : Wl.long l
  · rw [decide_eq_true hlong]
    go_upto_region 2 with fail
    refine wp_region_lit ?_
    refine nR (.int .i64 0) (gx_assign rfl rfl) ?_;simp only [zz];refine nR (.int .i64 5) (gx_assign rfl rfl) ?_;simp only [zz]
    go_wp2_with fail
    go_ret2
    exact .inl ⟨hlong, rfl, HT1.out⟩
  · rw [decide_eq_false hlong]
    have ycost : Wl.cost l ≤ 53 := Wl.cost_max hlong
    have ycpos : 0 < Wl.cost l := Wl.cost_pos l
    have HLONG := Lib.hid hlong
    have HLN := Lib.hid (show n ≤ 16 ∧ Wl.size l ≤ 2048 by unfold Wl.long at hlong; rw [HLEN.out] at hlong; omega)
    have HPKL := Lib.hid (Wl.pack_len l)
    have HAST := Lib.hid (show ({ (⟨v.age, v.first + v.places.length, Wl.cost l, 0⟩ : Wl.Stamp) with sum := Crc.sumN (Wl.pack l) } : Wl.Stamp) = Wl.ast Crc.sumN v.age (v.first + v.places.length) l from rfl)
    clear hlong
    obtain ⟨c, hc⟩ : ∃ c, c = Wl.cost l := ⟨_, rfl⟩
    rw [← hc] at HPK HPKL HAST ycost ycpos
    have HC := Lib.hid hc
    clear hc
    go_upto_region 3 with fail
    refine wp_region_alw (fun W => Blk W x 64 (walC p i v vP vH)) (by kernel_rfl) ?_
    have hS0 : (fun W => Blk W x 64 (walC p i v vP vH)) w1.drew := (H.out.still HT1.out).blk.drew
    have HD3 := Lib.hid ((Turn.refl nowhere w1).drew)
    generalize w1.drew = wd at *
    refine alw_take (i := 0) (v := .pointer (some ⟨x, 0, none⟩)) rfl (by kernel_rfl) (by kernel_rfl) (fun _ _ _ h => h) (.inl ⟨by rfl, fun W hW => exec_move rfl rfl⟩) hS0 ?_
    simp only [zz]
    refine alw_take (i := 1) (v := .pointer (some ⟨x, 0, none⟩)) rfl (by kernel_rfl) (by kernel_rfl) (fun _ _ _ h => h) (.inl ⟨by rfl, fun W hW => exec_nil rfl rfl⟩) hS0 ?_
    simp only [zz]
    refine alw_take (i := 2) (v := .pointer (some ⟨x, 8, none⟩)) rfl (by kernel_rfl) (by kernel_rfl) (fun _ _ _ h => h) (.inl ⟨by rfl, fun W hW => exec_field (off := 0) (d := 8) rfl rfl (by kernel_rfl)⟩) hS0 ?_
    simp only [zz]
    refine alw_take (i := 3) (v := .int .i64 (v.seg : Int)) rfl (by kernel_rfl) (by kernel_rfl) (fun _ _ _ h => h) (.inl ⟨by rfl, fun W hW => exec_load1 rfl rfl (by kernel_rfl) (hW.cell 8)⟩) hS0 ?_
    simp only [zz]
    refine alw_take (i := 4) (v := .pointer (some ⟨x, 0, none⟩)) rfl (by kernel_rfl) (by kernel_rfl) (fun _ _ _ h => h) (.inl ⟨by rfl, fun W hW => exec_move rfl rfl⟩) hS0 ?_
    simp only [zz]
    refine alw_take (i := 5) (v := .pointer (some ⟨x, 0, none⟩)) rfl (by kernel_rfl) (by kernel_rfl) (fun _ _ _ h => h) (.inl ⟨by rfl, fun W hW => exec_nil rfl rfl⟩) hS0 ?_
    simp only [zz]
    refine alw_take (i := 6) (v := .pointer (some ⟨x, 9, none⟩)) rfl (by kernel_rfl) (by kernel_rfl) (fun _ _ _ h => h) (.inl ⟨by rfl, fun W hW => exec_field (off := 0) (d := 9) rfl rfl (by kernel_rfl)⟩) hS0 ?_
    simp only [zz]
    refine alw_take (i := 7) (v := .int .i64 (v.used : Int)) rfl (by kernel_rfl) (by kernel_rfl) (fun _ _ _ h => h) (.inl ⟨by rfl, fun W hW => exec_load1 rfl rfl (by kernel_rfl) (hW.cell 9)⟩) hS0 ?_
    simp only [zz]
    refine alw_take (i := 8) (v := .slice A n cap) rfl (by kernel_rfl) (by kernel_rfl) (fun _ _ _ h => h) (.inl ⟨by rfl, fun W hW => exec_move rfl rfl⟩) hS0 ?_
    simp only [zz]
    refine alw_step (i := 9) (by kernel_rfl) rfl rfl ?_
    intro K1 HK1
    go_wp2_with fail
    refine (costOf_walk wd A n cap l ((HL.out.still HT1.out).still HD3.out)).mono ?_
    rintro e w2 ⟨rfl, ht⟩
    have hS1 := hS0.turn ht (fun e => e)
    have HT2 := Lib.hid ((HT1.out.trans HD3.out fun _ _ e => e).trans ht fun _ _ e => e)
    refine HK1.out _ _ ⟨hS0.turn ht (fun e => e), ?_⟩
    clear HK1
    try simp only [zz]
    rw [← HC.out]
    refine alw_take (i := 10) (v := .int .i64 (v.seg : Int)) rfl (by kernel_rfl) (by kernel_rfl) (fun _ _ _ h => h) (.inl ⟨by rfl, fun W hW => gx_assign rfl rfl⟩) hS1 ?_
    simp only [zz]
    refine alw_take (i := 11) (v := .int .i64 (v.used : Int)) rfl (by kernel_rfl) (by kernel_rfl) (fun _ _ _ h => h) (.inl ⟨by rfl, fun W hW => gx_assign rfl rfl⟩) hS1 ?_
    simp only [zz]
    refine alw_take (i := 12) (v := .int .i64 (c : Int)) rfl (by kernel_rfl) (by kernel_rfl) (fun _ _ _ h => h) (.inl ⟨by rfl, fun W hW => gx_assign rfl rfl⟩) hS1 ?_
    simp only [zz]
    refine alw_done rfl ?_
    refine NoPanic.normal ?_
    clear hS0 hS1 ht HT1 HD3
    try simp only [zz]
    by_cases hfit : v.used + c ≤ 64
    · go_upto_region 4 with fail
      refine wp_region_lit ?_
      refine nR (.int .i64 (v.used : Int)) (exec_move rfl rfl) ?_;simp only [zz];refine nR (.int .i64 (c : Int)) (exec_move rfl rfl) ?_;simp only [zz];refine nR (.int .i64 ((v.used + c : Nat) : Int)) (ix_add rfl rfl rfl (by omega) (by omega)) ?_;simp only [zz];refine nR (.bool false) (ix_gtr rfl rfl rfl (decide_eq_false (by omega))) ?_;simp only [zz]
      have HPI := Lib.hid (show v.pick (Wl.cost l) = some (v.seg, v.used) by rw [← HC.out, HPK.out, if_pos hfit])
      obtain ⟨sg, hsgE⟩ : ∃ sg, sg = v.seg := ⟨_, rfl⟩
      obtain ⟨us, husE⟩ : ∃ us, us = v.used := ⟨_, rfl⟩
      rw [← hsgE, ← husE] at HPI ⊢
      have ysg : sg < v.held.length := by rw [hsgE]; exact hsg
      have yus : us + c ≤ 64 := by rw [husE]; exact hfit
      clear hsgE husE
      go_upto_region 6 with fail
      refine wp_region_lit ?_
      refine nR (.int .i64 (sg : Int)) (exec_move rfl rfl) ?_;simp only [zz];refine nR (.bool false) (ix_eql rfl rfl rfl (decide_eq_false (by omega))) ?_;simp only [zz]
      go_upto_region 8 with fail
      refine wp_region_alw (fun W => Blk W x 64 (walC p i v vP vH)) (by kernel_rfl) ?_
      have hS0 : (fun W => Blk W x 64 (walC p i v vP vH)) w2.drew := (H.out.still HT2.out).blk.drew
      have HD8 := Lib.hid ((Turn.refl nowhere w2).drew)
      generalize w2.drew = w3 at *
      have HT3 := Lib.hid (HT2.out.trans HD8.out fun _ _ e => e)
      clear HT2 HD8
      refine alw_take (i := 0) (v := .pointer (some ⟨x, 0, none⟩)) rfl (by kernel_rfl) (by kernel_rfl) (fun _ _ _ h => h) (.inl ⟨by rfl, fun W hW => exec_move rfl rfl⟩) hS0 ?_
      simp only [zz]
      refine alw_take (i := 1) (v := .pointer (some ⟨x, 0, none⟩)) rfl (by kernel_rfl) (by kernel_rfl) (fun _ _ _ h => h) (.inl ⟨by rfl, fun W hW => exec_nil rfl rfl⟩) hS0 ?_
      simp only [zz]
      refine alw_take (i := 2) (v := .pointer (some ⟨x, 2, none⟩)) rfl (by kernel_rfl) (by kernel_rfl) (fun _ _ _ h => h) (.inl ⟨by rfl, fun W hW => exec_field (off := 0) (d := 2) rfl rfl (by kernel_rfl)⟩) hS0 ?_
      simp only [zz]
      refine alw_take (i := 3) (v := .pointer (some ⟨x, 3, none⟩)) rfl (by kernel_rfl) (by kernel_rfl) (fun _ _ _ h => h) (.inl ⟨by rfl, fun W hW => exec_field (off := 2) (d := 1) rfl rfl (by kernel_rfl)⟩) hS0 ?_
      simp only [zz]
      refine alw_take (i := 4) (v := .int .i64 (v.age : Int)) rfl (by kernel_rfl) (by kernel_rfl) (fun _ _ _ h => h) (.inl ⟨by rfl, fun W hW => exec_load1 rfl rfl (by kernel_rfl) (hW.cell 3)⟩) hS0 ?_
      simp only [zz]
      refine alw_take (i := 5) (v := .pointer (some ⟨x, 0, none⟩)) rfl (by kernel_rfl) (by kernel_rfl) (fun _ _ _ h => h) (.inl ⟨by rfl, fun W hW => exec_move rfl rfl⟩) hS0 ?_
      simp only [zz]
      refine alw_take (i := 7) (v := .int .i64 (c : Int)) rfl (by kernel_rfl) (by kernel_rfl) (fun _ _ _ h => h) (.inl ⟨by rfl, fun W hW => exec_move rfl rfl⟩) hS0 ?_
      simp only [zz]
      refine alw_two (i := 6) (j := 9) (by kernel_rfl) rfl rfl rfl rfl ?_ ?_
      · intro K1 HK1
        go_wp2_with fail
        refine (Next_walk (H.out.still HT3.out) hfi).mono ?_
        rintro e w4 ⟨rfl, ht⟩
        have HT4 := Lib.hid (HT3.out.trans ht fun _ _ e => e)
        skip
        refine HK1.out _ _ ⟨(H.out.still HT4.out).blk, ?_⟩
        clear HK1 ht
        try simp only [zz]
        refine alw_take (i := 8) (v := .agg (stA ⟨v.age, v.first + v.places.length, c, 0⟩)) rfl (by kernel_rfl) (by kernel_rfl) (fun _ _ _ h => h) (.inl ⟨by rfl, fun W hW => gx_build3 rfl rfl rfl rfl (build_st3 _ _ _ _)⟩) (H.out.still HT4.out).blk ?_
        simp only [zz]
        refine alw_step (i := 9) (by kernel_rfl) rfl rfl ?_
        intro K1 HK1
        have hb_ := Blk.new w4 67 (stA ⟨0, 0, 0, 0⟩)
        have ht_ := (Turn.refl nowhere w4).alloc (.cells (stA ⟨0, 0, 0, 0⟩) 67)
        refine wp_run (v := .pointer (some ⟨w4.heap.size, 0, none⟩)) (w' := w4.alloc (.cells (stA ⟨0, 0, 0, 0⟩) 67)) (gx_alloc rfl (zero_st _)) ?_
        refine HK1.out _ _ ⟨(H.out.still (HT4.out.trans ht_ fun _ _ e => e)).blk, ?_⟩
        clear HK1
        try simp only [zz]
        obtain ⟨m, hm⟩ : ∃ m, m = w4.heap.size := ⟨_, rfl⟩
        have HMW := Lib.hid (show w.heap.size ≤ m by rw [hm]; exact HT4.out.size)
        rw [← hm] at hb_ ⊢
        have HT5 := Lib.hid (HT4.out.trans ht_ fun _ _ e => e)
        have HBn5 := Lib.hid hb_
        clear hm hb_ ht_
        generalize w4.alloc (.cells (stA ⟨0, 0, 0, 0⟩) 67) = w5 at *
        refine alw_step (i := 10) (by kernel_rfl) rfl rfl ?_
        intro K1 HK1
        refine wp_store_rowU 67 (.tmp 9) (.tmp 40) rfl (stA ⟨v.age, v.first + v.places.length, c, 0⟩) HBn5.out rfl rfl rfl (by rw [size_st]; rfl) (stA_one _) ?_
        intro w6 hb6 ht6
        have HT6 := Lib.hid (show Turn nowhere w w6 from HT5.out.trans ht6 fun k hk e => by have e : k = m := e; have := HMW.out; omega)
        refine HK1.out _ _ ⟨(H.out.still HT6.out).blk, ?_⟩
        clear HK1
        try simp only [zz]
        have HB6 := Lib.hid hb6
        clear hb6 ht6
        refine alw_done rfl ?_
        refine NoPanic.normal ?_
        clear hS0
        try simp only [zz]
        go_upto_region 9 with fail
        refine wp_region_lit ?_
        refine nR (.int .i64 (sg : Int)) (exec_move rfl rfl) ?_;simp only [zz]
        refine wpList_op rfl fun K9 HK9 => ?_
        go_wp2_with fail
        refine (begin_walk w6 sg (by omega)).mono ?_
        rintro e w6 ⟨rfl, rfl⟩
        refine HK9.out _ _ ?_
        clear HK9
        try simp only [zz]
        refine nR (.int .i64 (us : Int)) (exec_move rfl rfl) ?_;simp only [zz];refine nR (.int .i64 ((2 + 64 * sg + us : Nat) : Int)) (ix_add rfl rfl rfl (by omega) (by omega)) ?_;simp only [zz];refine nR (.int .i64 ((2 + 64 * sg + us : Nat) : Int)) (gx_assign rfl rfl) ?_;simp only [zz]
        go_upto_region 10 with fail
        refine wp_region_alw (fun W => Blk W x 64 (walC p i v vP vH) ∧ Blk W m 67 (stA ⟨v.age, v.first + v.places.length, c, 0⟩)) (by kernel_rfl) ?_
        have hS0 : (fun W => Blk W x 64 (walC p i v vP vH) ∧ Blk W m 67 (stA ⟨v.age, v.first + v.places.length, c, 0⟩)) w6.drew := ⟨(H.out.still HT6.out).blk.drew, HB6.out.drew⟩
        have HD9 := Lib.hid ((Turn.refl nowhere w6).drew)
        generalize w6.drew = w7 at *
        have HT7 := Lib.hid (HT6.out.trans HD9.out fun _ _ e => e)
        clear HT6 HD9 HB6
        refine alw_take (i := 0) (v := .pointer (some ⟨x, 0, none⟩)) rfl (by kernel_rfl) (by kernel_rfl) (fun _ _ _ h => h) (.inl ⟨by rfl, fun W hW => exec_move rfl rfl⟩) hS0 ?_
        simp only [zz]
        refine alw_take (i := 1) (v := .pointer (some ⟨x, 0, none⟩)) rfl (by kernel_rfl) (by kernel_rfl) (fun _ _ _ h => h) (.inl ⟨by rfl, fun W hW => exec_nil rfl rfl⟩) hS0 ?_
        simp only [zz]
        refine alw_take (i := 2) (v := .pointer (some ⟨x, 0, none⟩)) rfl (by kernel_rfl) (by kernel_rfl) (fun _ _ _ h => h) (.inl ⟨by rfl, fun W hW => exec_field (off := 0) (d := 0) rfl rfl (by kernel_rfl)⟩) hS0 ?_
        simp only [zz]
        refine alw_take (i := 3) (v := .agg (dskV p i)) rfl (by kernel_rfl) (by kernel_rfl) (fun _ _ _ h => h) (.inl ⟨by rfl, fun W hW => gx_loads rfl rfl (wal_dsk hW.1) Tryd.underlying60 rfl (by rw [size_dsk]; rfl)⟩) hS0 ?_
        simp only [zz]
        refine alw_take (i := 4) (v := .int .i64 ((2 + 64 * sg + us : Nat) : Int)) rfl (by kernel_rfl) (by kernel_rfl) (fun _ _ _ h => h) (.inl ⟨by rfl, fun W hW => exec_move rfl rfl⟩) hS0 ?_
        simp only [zz]
        refine alw_take (i := 5) (v := .agg (stA ⟨v.age, v.first + v.places.length, c, 0⟩)) rfl (by kernel_rfl) (by kernel_rfl) (fun _ _ _ h => h) (.inl ⟨by rfl, fun W hW => gx_loads rfl rfl (blk_range hW.2) Tryd.underlying67 rfl (by rw [size_st]; rfl)⟩) hS0 ?_
        simp only [zz]
        refine alw_take (i := 6) (v := .slice A n cap) rfl (by kernel_rfl) (by kernel_rfl) (fun _ _ _ h => h) (.inl ⟨by rfl, fun W hW => exec_move rfl rfl⟩) hS0 ?_
        simp only [zz]
        refine alw_step (i := 7) (by kernel_rfl) rfl rfl ?_
        intro K1 HK1
        go_wp2_with fail
        refine (pack_walk w7 A n cap l (HL.out.still HT7.out) HLN.out.1 HLN.out.2).mono ?_
        rintro e w8 ⟨g, rfl, hgl, hrow, ht⟩
        have hS1 : Blk w8 x 64 (walC p i v vP vH) ∧ Blk w8 m 67 (stA ⟨v.age, v.first + v.places.length, c, 0⟩) := ⟨hS0.1.turn ht fun e => e, hS0.2.turn ht fun e => e⟩
        refine HK1.out _ _ ⟨⟨hS0.1.turn ht fun e => e, hS0.2.turn ht fun e => e⟩, ?_⟩
        clear HK1
        try simp only [zz]
        rw [← HC.out]
        have HT8 := Lib.hid (HT7.out.trans ht fun _ _ e => e)
        have HGW := Lib.hid (show w.heap.size ≤ g from Nat.le_trans HT7.out.size hgl)
        have HB8 := Lib.hid (show Bs w8 (some ⟨g, 0, none⟩) (40 * c) (Wl.pack l) from by
          have := blk_bs (show Blk w8 g 5 (byteCells (Wl.pack l)) from hrow) (off := 0) (k := 40 * c) (by rw [HPKL.out]; omega) (by unfold maxLen; omega)
          rwa [List.drop_zero, List.take_of_length_le (by rw [HPKL.out]; omega)] at this)
        have HGF := Lib.hid (show ∀ b, w.heap.size ≤ b → ¬ F b from fun b hb e => by have := HPL.out.lt e; omega)
        clear ht hgl hrow HT7
        refine alw_step (i := 8) (by kernel_rfl) rfl rfl ?_
        intro K1 HK1
        go_wp2_with fail
        refine (lay_walk (HPL.out.turn HT8.out fun _ _ e => e) (tab_still HTAB.out HT8.out) i d HD.out (2 + 64 * sg + us) c (by have := HSS.out; omega) ycpos (by omega) ⟨v.age, v.first + v.places.length, c, 0⟩ (by show v.age ≤ _; omega) (by show v.first + v.places.length ≤ _; omega) (by show c ≤ _; omega) (some ⟨g, 0, none⟩) (40 * c) (Wl.pack l) HB8.out (Nat.le_refl _) (fun b off e => by injection e with e; injection e with e1 e2; subst e1; exact HGF.out _ HGW.out) (by omega)).mono ?_
        rintro e w9 ⟨e9, s9, rfl, hl, hgo⟩
        rw [HAST.out] at hl
        have HLD := Lib.hid hl
        have HGO := Lib.hid (Goes2.behind HT8.out hgo)
        have hS2 : Blk w9 x 64 (walC p i v vP vH) ∧ Blk w9 m 67 (stA ⟨v.age, v.first + v.places.length, c, 0⟩) := ⟨hS1.1.turn hgo.turned (HG.out x (.inl rfl)), hS1.2.turn hgo.turned (HGF.out m HMW.out)⟩
        clear hl hgo
        refine HK1.out _ _ ⟨hS2, ?_⟩
        clear HK1
        try simp only [zz]
        refine alw_take (i := 9) (v := .int .i64 e9) rfl (by kernel_rfl) (by kernel_rfl) (fun _ _ _ h => h) (.inl ⟨by rfl, fun W hW => gx_assign rfl rfl⟩) hS2 ?_
        simp only [zz]
        refine alw_done rfl ?_
        refine NoPanic.normal ?_
        clear hS0 hS1
        try simp only [zz]
        obtain ⟨F9, hp9, ht9, hf9⟩ := HGO.out
        have HM9 := Lib.hid hS2.2
        have HP9 := Lib.hid hp9
        have HT9 := Lib.hid ht9
        have HF9 := Lib.hid hf9
        have HW9 := Lib.hid (H.out.turn ht9 fun b hb => HG.out b hb)
        have HGL := Lib.hid (show ∀ b, WalG x vP vH b → b < w.heap.size from fun b hb => by
          rcases hb with e | e | e
          · rw [e]; exact H.out.blk.lt
          · exact (H.out.pl.lt e).1
          · exact (H.out.he.lt e).1)
        have HGF9 := Lib.hid (show ∀ b, WalG x vP vH b → ¬ F9 b from fun b hb e => (hf9 b e).elim (HG.out b hb) fun e2 => by have := HGL.out b hb; omega)
        clear hS2 hp9 ht9 hf9
        by_cases he : e9 = 0
        · subst he
          go_upto_region 11 with fail
          refine wp_region_lit ?_
          refine nR (.int .i64 0) (exec_move rfl rfl) ?_;simp only [zz];refine nR (.bool false) (ix_neq rfl rfl rfl (by decide)) ?_;simp only [zz]
          go_upto_region 13 with fail
          refine wp_region_lit ?_
          refine nR (.pointer (some ⟨x, 0, none⟩)) (exec_move rfl rfl) ?_;simp only [zz];refine nR (.int .i64 ((2 + 64 * sg + us : Nat) : Int)) (exec_move rfl rfl) ?_;simp only [zz];refine nR (.int .i64 (c : Int)) (exec_move rfl rfl) ?_;simp only [zz]
          have hsgP : (2 + 64 * sg + us - 2) / 64 = sg := by omega
          refine wpList_op rfl fun K9 HK9 => ?_
          go_wp2_with fail
          refine (add_walk2 HW9.out (2 + 64 * sg + us) c (by omega) (by omega) (by omega) (by rw [hsgP]; exact ysg) (HHE.out _) hpl).mono ?_
          rintro e wa ⟨rfl, vP2, hwb, hta, howa⟩
          refine HK9.out _ _ ?_
          clear HK9
          try simp only [zz]
          have HWB := Lib.hid hwb
          have HTA := Lib.hid hta
          have HOWA := Lib.hid howa
          have HMA := Lib.hid (HM9.out.turn hta fun e => by have := HGL.out m e; have := HMW.out; omega)
          have HPA := Lib.hid (HP9.out.turn hta fun b hb e => HGF9.out b e hb)
          have HGA := Lib.hid (show ∀ b, WalG x vP2 vH b → ¬ F9 b from fun b hb e => by
            rcases hb with e2 | e2 | e2
            · exact HGF9.out b (.inl e2) e
            · rcases howa b e2 with e3 | e3
              · exact HGF9.out b (.inr (.inl e3)) e
              · have := HP9.out.lt e; omega
            · exact HGF9.out b (.inr (.inr e2)) e)
          clear hwb hta howa hsgP
          go_upto_region 14 with fail
          refine wp_region_lit ?_
          refine nR (.pointer (some ⟨m, 1, none⟩)) (exec_field (off := 0) (d := 1) rfl rfl (by kernel_rfl)) ?_;simp only [zz];refine nR (.int .i64 ((v.first + v.places.length : Nat) : Int)) (exec_load1 rfl rfl (by kernel_rfl) (HMA.out.cell 1)) ?_;simp only [zz];refine nR (.int .i64 ((v.first + v.places.length : Nat) : Int)) (gx_assign rfl rfl) ?_;simp only [zz];refine nR (.int .i64 0) (gx_assign rfl rfl) ?_;simp only [zz]
          go_wp2_with fail
          go_ret2
          refine .inr (.inr ⟨HLONG.out, sg, us, 0, s9, F9, HPI.out, ?_, ?_, (HT9.out.mono fun _ _ e => .inl e).trans HTA.out fun b _ e => .inr e, HF9.out, .inl ⟨rfl, rfl, vP2, ?_, HGA.out, fun b e => (HOWA.out b e).imp id fun e => Nat.le_trans HT9.out.size e⟩⟩)
          · rw [← HC.out]; exact HLD.out
          · rw [← HC.out]; exact HPA.out
          · rw [← HC.out]; exact HWB.out
        · go_upto_region 11 with fail
          refine wp_region_lit ?_
          refine nR (.int .i64 e9) (exec_move rfl rfl) ?_;simp only [zz];refine nR (.bool true) (ix_neq rfl rfl rfl (decide_eq_true he)) ?_;simp only [zz]
          go_upto_region 12 with fail
          refine wp_region_lit ?_
          refine nR (.int .i64 e9) (exec_move rfl rfl) ?_;simp only [zz];refine nR (.int .i64 0) (gx_assign rfl rfl) ?_;simp only [zz];refine nR (.int .i64 e9) (gx_assign rfl rfl) ?_;simp only [zz]
          go_wp2_with fail
          go_ret2
          refine .inr (.inr ⟨HLONG.out, sg, us, e9, s9, F9, HPI.out, ?_, ?_, HT9.out.mono fun _ _ e => .inl e, HF9.out, .inr ⟨he, rfl, HW9.out⟩⟩)
          · rw [← HC.out]; exact HLD.out
          · rw [← HC.out]; exact HP9.out
      · intro K1 HK1
        have hb_ := Blk.new w3 67 (stA ⟨0, 0, 0, 0⟩)
        have ht_ := (Turn.refl nowhere w3).alloc (.cells (stA ⟨0, 0, 0, 0⟩) 67)
        refine wp_run (v := .pointer (some ⟨w3.heap.size, 0, none⟩)) (w' := w3.alloc (.cells (stA ⟨0, 0, 0, 0⟩) 67)) (gx_alloc rfl (zero_st _)) ?_
        refine HK1.out _ _ ⟨(H.out.still (HT3.out.trans ht_ fun _ _ e => e)).blk, ?_⟩
        clear HK1
        try simp only [zz]
        obtain ⟨m, hm⟩ : ∃ m, m = w3.heap.size := ⟨_, rfl⟩
        have HMW := Lib.hid (show w.heap.size ≤ m by rw [hm]; exact HT3.out.size)
        rw [← hm] at hb_ ⊢
        have HT4 := Lib.hid (HT3.out.trans ht_ fun _ _ e => e)
        have HBn4 := Lib.hid hb_
        clear hm hb_ ht_
        generalize w3.alloc (.cells (stA ⟨0, 0, 0, 0⟩) 67) = w4 at *
        refine alw_step (i := 6) (by kernel_rfl) rfl rfl ?_
        intro K1 HK1
        go_wp2_with fail
        refine (Next_walk (H.out.still HT4.out) hfi).mono ?_
        rintro e w5 ⟨rfl, ht⟩
        have HT5 := Lib.hid (HT4.out.trans ht fun _ _ e => e)
        have HBn5 := Lib.hid (HBn4.out.turn ht fun e => e)
        refine HK1.out _ _ ⟨(H.out.still HT5.out).blk, ?_⟩
        clear HK1 ht
        try simp only [zz]
        refine alw_take (i := 8) (v := .agg (stA ⟨v.age, v.first + v.places.length, c, 0⟩)) rfl (by kernel_rfl) (by kernel_rfl) (fun _ _ _ h => h) (.inl ⟨by rfl, fun W hW => gx_build3 rfl rfl rfl rfl (build_st3 _ _ _ _)⟩) (H.out.still HT5.out).blk ?_
        simp only [zz]
        refine alw_step (i := 10) (by kernel_rfl) rfl rfl ?_
        intro K1 HK1
        refine wp_store_rowU 67 (.tmp 9) (.tmp 40) rfl (stA ⟨v.age, v.first + v.places.length, c, 0⟩) HBn5.out rfl rfl rfl (by rw [size_st]; rfl) (stA_one _) ?_
        intro w6 hb6 ht6
        have HT6 := Lib.hid (show Turn nowhere w w6 from HT5.out.trans ht6 fun k hk e => by have e : k = m := e; have := HMW.out; omega)
        refine HK1.out _ _ ⟨(H.out.still HT6.out).blk, ?_⟩
        clear HK1
        try simp only [zz]
        have HB6 := Lib.hid hb6
        clear hb6 ht6
        refine alw_done rfl ?_
        refine NoPanic.normal ?_
        clear hS0
        try simp only [zz]
        go_upto_region 9 with fail
        refine wp_region_lit ?_
        refine nR (.int .i64 (sg : Int)) (exec_move rfl rfl) ?_;simp only [zz]
        refine wpList_op rfl fun K9 HK9 => ?_
        go_wp2_with fail
        refine (begin_walk w6 sg (by omega)).mono ?_
        rintro e w6 ⟨rfl, rfl⟩
        refine HK9.out _ _ ?_
        clear HK9
        try simp only [zz]
        refine nR (.int .i64 (us : Int)) (exec_move rfl rfl) ?_;simp only [zz];refine nR (.int .i64 ((2 + 64 * sg + us : Nat) : Int)) (ix_add rfl rfl rfl (by omega) (by omega)) ?_;simp only [zz];refine nR (.int .i64 ((2 + 64 * sg + us : Nat) : Int)) (gx_assign rfl rfl) ?_;simp only [zz]
        go_upto_region 10 with fail
        refine wp_region_alw (fun W => Blk W x 64 (walC p i v vP vH) ∧ Blk W m 67 (stA ⟨v.age, v.first + v.places.length, c, 0⟩)) (by kernel_rfl) ?_
        have hS0 : (fun W => Blk W x 64 (walC p i v vP vH) ∧ Blk W m 67 (stA ⟨v.age, v.first + v.places.length, c, 0⟩)) w6.drew := ⟨(H.out.still HT6.out).blk.drew, HB6.out.drew⟩
        have HD9 := Lib.hid ((Turn.refl nowhere w6).drew)
        generalize w6.drew = w7 at *
        have HT7 := Lib.hid (HT6.out.trans HD9.out fun _ _ e => e)
        clear HT6 HD9 HB6
        refine alw_take (i := 0) (v := .pointer (some ⟨x, 0, none⟩)) rfl (by kernel_rfl) (by kernel_rfl) (fun _ _ _ h => h) (.inl ⟨by rfl, fun W hW => exec_move rfl rfl⟩) hS0 ?_
        simp only [zz]
        refine alw_take (i := 1) (v := .pointer (some ⟨x, 0, none⟩)) rfl (by kernel_rfl) (by kernel_rfl) (fun _ _ _ h => h) (.inl ⟨by rfl, fun W hW => exec_nil rfl rfl⟩) hS0 ?_
        simp only [zz]
        refine alw_take (i := 2) (v := .pointer (some ⟨x, 0, none⟩)) rfl (by kernel_rfl) (by kernel_rfl) (fun _ _ _ h => h) (.inl ⟨by rfl, fun W hW => exec_field (off := 0) (d := 0) rfl rfl (by kernel_rfl)⟩) hS0 ?_
        simp only [zz]
        refine alw_take (i := 3) (v := .agg (dskV p i)) rfl (by kernel_rfl) (by kernel_rfl) (fun _ _ _ h => h) (.inl ⟨by rfl, fun W hW => gx_loads rfl rfl (wal_dsk hW.1) Tryd.underlying60 rfl (by rw [size_dsk]; rfl)⟩) hS0 ?_
        simp only [zz]
        refine alw_take (i := 4) (v := .int .i64 ((2 + 64 * sg + us : Nat) : Int)) rfl (by kernel_rfl) (by kernel_rfl) (fun _ _ _ h => h) (.inl ⟨by rfl, fun W hW => exec_move rfl rfl⟩) hS0 ?_
        simp only [zz]
        refine alw_take (i := 5) (v := .agg (stA ⟨v.age, v.first + v.places.length, c, 0⟩)) rfl (by kernel_rfl) (by kernel_rfl) (fun _ _ _ h => h) (.inl ⟨by rfl, fun W hW => gx_loads rfl rfl (blk_range hW.2) Tryd.underlying67 rfl (by rw [size_st]; rfl)⟩) hS0 ?_
        simp only [zz]
        refine alw_take (i := 6) (v := .slice A n cap) rfl (by kernel_rfl) (by kernel_rfl) (fun _ _ _ h => h) (.inl ⟨by rfl, fun W hW => exec_move rfl rfl⟩) hS0 ?_
        simp only [zz]
        refine alw_step (i := 7) (by kernel_rfl) rfl rfl ?_
        intro K1 HK1
        go_wp2_with fail
        refine (pack_walk w7 A n cap l (HL.out.still HT7.out) HLN.out.1 HLN.out.2).mono ?_
        rintro e w8 ⟨g, rfl, hgl, hrow, ht⟩
        have hS1 : Blk w8 x 64 (walC p i v vP vH) ∧ Blk w8 m 67 (stA ⟨v.age, v.first + v.places.length, c, 0⟩) := ⟨hS0.1.turn ht fun e => e, hS0.2.turn ht fun e => e⟩
        refine HK1.out _ _ ⟨⟨hS0.1.turn ht fun e => e, hS0.2.turn ht fun e => e⟩, ?_⟩
        clear HK1
        try simp only [zz]
        rw [← HC.out]
        have HT8 := Lib.hid (HT7.out.trans ht fun _ _ e => e)
        have HGW := Lib.hid (show w.heap.size ≤ g from Nat.le_trans HT7.out.size hgl)
        have HB8 := Lib.hid (show Bs w8 (some ⟨g, 0, none⟩) (40 * c) (Wl.pack l) from by
          have := blk_bs (show Blk w8 g 5 (byteCells (Wl.pack l)) from hrow) (off := 0) (k := 40 * c) (by rw [HPKL.out]; omega) (by unfold maxLen; omega)
          rwa [List.drop_zero, List.take_of_length_le (by rw [HPKL.out]; omega)] at this)
        have HGF := Lib.hid (show ∀ b, w.heap.size ≤ b → ¬ F b from fun b hb e => by have := HPL.out.lt e; omega)
        clear ht hgl hrow HT7
        refine alw_step (i := 8) (by kernel_rfl) rfl rfl ?_
        intro K1 HK1
        go_wp2_with fail
        refine (lay_walk (HPL.out.turn HT8.out fun _ _ e => e) (tab_still HTAB.out HT8.out) i d HD.out (2 + 64 * sg + us) c (by have := HSS.out; omega) ycpos (by omega) ⟨v.age, v.first + v.places.length, c, 0⟩ (by show v.age ≤ _; omega) (by show v.first + v.places.length ≤ _; omega) (by show c ≤ _; omega) (some ⟨g, 0, none⟩) (40 * c) (Wl.pack l) HB8.out (Nat.le_refl _) (fun b off e => by injection e with e; injection e with e1 e2; subst e1; exact HGF.out _ HGW.out) (by omega)).mono ?_
        rintro e w9 ⟨e9, s9, rfl, hl, hgo⟩
        rw [HAST.out] at hl
        have HLD := Lib.hid hl
        have HGO := Lib.hid (Goes2.behind HT8.out hgo)
        have hS2 : Blk w9 x 64 (walC p i v vP vH) ∧ Blk w9 m 67 (stA ⟨v.age, v.first + v.places.length, c, 0⟩) := ⟨hS1.1.turn hgo.turned (HG.out x (.inl rfl)), hS1.2.turn hgo.turned (HGF.out m HMW.out)⟩
        clear hl hgo
        refine HK1.out _ _ ⟨hS2, ?_⟩
        clear HK1
        try simp only [zz]
        refine alw_take (i := 9) (v := .int .i64 e9) rfl (by kernel_rfl) (by kernel_rfl) (fun _ _ _ h => h) (.inl ⟨by rfl, fun W hW => gx_assign rfl rfl⟩) hS2 ?_
        simp only [zz]
        refine alw_done rfl ?_
        refine NoPanic.normal ?_
        clear hS0 hS1
        try simp only [zz]
        obtain ⟨F9, hp9, ht9, hf9⟩ := HGO.out
        have HM9 := Lib.hid hS2.2
        have HP9 := Lib.hid hp9
        have HT9 := Lib.hid ht9
        have HF9 := Lib.hid hf9
        have HW9 := Lib.hid (H.out.turn ht9 fun b hb => HG.out b hb)
        have HGL := Lib.hid (show ∀ b, WalG x vP vH b → b < w.heap.size from fun b hb => by
          rcases hb with e | e | e
          · rw [e]; exact H.out.blk.lt
          · exact (H.out.pl.lt e).1
          · exact (H.out.he.lt e).1)
        have HGF9 := Lib.hid (show ∀ b, WalG x vP vH b → ¬ F9 b from fun b hb e => (hf9 b e).elim (HG.out b hb) fun e2 => by have := HGL.out b hb; omega)
        clear hS2 hp9 ht9 hf9
        by_cases he : e9 = 0
        · subst he
          go_upto_region 11 with fail
          refine wp_region_lit ?_
          refine nR (.int .i64 0) (exec_move rfl rfl) ?_;simp only [zz];refine nR (.bool false) (ix_neq rfl rfl rfl (by decide)) ?_;simp only [zz]
          go_upto_region 13 with fail
          refine wp_region_lit ?_
          refine nR (.pointer (some ⟨x, 0, none⟩)) (exec_move rfl rfl) ?_;simp only [zz];refine nR (.int .i64 ((2 + 64 * sg + us : Nat) : Int)) (exec_move rfl rfl) ?_;simp only [zz];refine nR (.int .i64 (c : Int)) (exec_move rfl rfl) ?_;simp only [zz]
          have hsgP : (2 + 64 * sg + us - 2) / 64 = sg := by omega
          refine wpList_op rfl fun K9 HK9 => ?_
          go_wp2_with fail
          refine (add_walk2 HW9.out (2 + 64 * sg + us) c (by omega) (by omega) (by omega) (by rw [hsgP]; exact ysg) (HHE.out _) hpl).mono ?_
          rintro e wa ⟨rfl, vP2, hwb, hta, howa⟩
          refine HK9.out _ _ ?_
          clear HK9
          try simp only [zz]
          have HWB := Lib.hid hwb
          have HTA := Lib.hid hta
          have HOWA := Lib.hid howa
          have HMA := Lib.hid (HM9.out.turn hta fun e => by have := HGL.out m e; have := HMW.out; omega)
          have HPA := Lib.hid (HP9.out.turn hta fun b hb e => HGF9.out b e hb)
          have HGA := Lib.hid (show ∀ b, WalG x vP2 vH b → ¬ F9 b from fun b hb e => by
            rcases hb with e2 | e2 | e2
            · exact HGF9.out b (.inl e2) e
            · rcases howa b e2 with e3 | e3
              · exact HGF9.out b (.inr (.inl e3)) e
              · have := HP9.out.lt e; omega
            · exact HGF9.out b (.inr (.inr e2)) e)
          clear hwb hta howa hsgP
          go_upto_region 14 with fail
          refine wp_region_lit ?_
          refine nR (.pointer (some ⟨m, 1, none⟩)) (exec_field (off := 0) (d := 1) rfl rfl (by kernel_rfl)) ?_;simp only [zz];refine nR (.int .i64 ((v.first + v.places.length : Nat) : Int)) (exec_load1 rfl rfl (by kernel_rfl) (HMA.out.cell 1)) ?_;simp only [zz];refine nR (.int .i64 ((v.first + v.places.length : Nat) : Int)) (gx_assign rfl rfl) ?_;simp only [zz];refine nR (.int .i64 0) (gx_assign rfl rfl) ?_;simp only [zz]
          go_wp2_with fail
          go_ret2
          refine .inr (.inr ⟨HLONG.out, sg, us, 0, s9, F9, HPI.out, ?_, ?_, (HT9.out.mono fun _ _ e => .inl e).trans HTA.out fun b _ e => .inr e, HF9.out, .inl ⟨rfl, rfl, vP2, ?_, HGA.out, fun b e => (HOWA.out b e).imp id fun e => Nat.le_trans HT9.out.size e⟩⟩)
          · rw [← HC.out]; exact HLD.out
          · rw [← HC.out]; exact HPA.out
          · rw [← HC.out]; exact HWB.out
        · go_upto_region 11 with fail
          refine wp_region_lit ?_
          refine nR (.int .i64 e9) (exec_move rfl rfl) ?_;simp only [zz];refine nR (.bool true) (ix_neq rfl rfl rfl (decide_eq_true he)) ?_;simp only [zz]
          go_upto_region 12 with fail
          refine wp_region_lit ?_
          refine nR (.int .i64 e9) (exec_move rfl rfl) ?_;simp only [zz];refine nR (.int .i64 0) (gx_assign rfl rfl) ?_;simp only [zz];refine nR (.int .i64 e9) (gx_assign rfl rfl) ?_;simp only [zz]
          go_wp2_with fail
          go_ret2
          refine .inr (.inr ⟨HLONG.out, sg, us, e9, s9, F9, HPI.out, ?_, ?_, HT9.out.mono fun _ _ e => .inl e, HF9.out, .inr ⟨he, rfl, HW9.out⟩⟩)
          · rw [← HC.out]; exact HLD.out
          · rw [← HC.out]; exact HP9.out
    · go_upto_region 4 with fail
      refine wp_region_lit ?_
      refine nR (.int .i64 (v.used : Int)) (exec_move rfl rfl) ?_;simp only [zz];refine nR (.int .i64 (c : Int)) (exec_move rfl rfl) ?_;simp only [zz];refine nR (.int .i64 ((v.used + c : Nat) : Int)) (ix_add rfl rfl rfl (by omega) (by omega)) ?_;simp only [zz];refine nR (.bool true) (ix_gtr rfl rfl rfl (decide_eq_true (by omega))) ?_;simp only [zz]
      go_upto_region 5 with fail
      refine wp_region_lit ?_
      refine nR (.pointer (some ⟨x, 0, none⟩)) (exec_move rfl rfl) ?_;simp only [zz]
      refine wpList_op rfl fun K9 HK9 => ?_
      go_wp2_with fail
      refine (freeSegment_walk (H.out.still HT2.out)).mono ?_
      rintro e w2 ⟨rfl, rfl⟩
      refine HK9.out _ _ ?_
      clear HK9
      try simp only [zz]
      refine nR (.int .i64 (freeV (freeK v v.held.length))) (gx_assign rfl rfl) ?_;simp only [zz];refine nR (.int .i64 0) (gx_assign rfl rfl) ?_;simp only [zz]
      have HPI0 := Lib.hid (show v.pick (Wl.cost l) = (freeK v v.held.length).map fun sg => (sg, 0) by rw [← HC.out, HPK.out, if_neg hfit])
      cases hfr : freeK v v.held.length with
      | none =>
        rw [hfr] at HPI0
        go_upto_region 6 with fail
        refine wp_region_lit ?_
        refine nR (.int .i64 (freeV none)) (exec_move rfl rfl) ?_;simp only [zz];refine nR (.bool true) (ix_eql rfl rfl rfl (by decide)) ?_;simp only [zz]
        go_upto_region 7 with fail
        refine wp_region_lit ?_
        refine nR (.int .i64 0) (gx_assign rfl rfl) ?_;simp only [zz];refine nR (.int .i64 3) (gx_assign rfl rfl) ?_;simp only [zz]
        go_wp2_with fail
        go_ret2
        exact .inr (.inl ⟨HLONG.out, HPI0.out, rfl, HT2.out⟩)
      | some sg =>
        rw [hfr] at HPI0
        have ysg : sg < v.held.length := freeK_lt hfr
        have HPI := Lib.hid (show v.pick (Wl.cost l) = some (sg, 0) from HPI0.out)
        rw [show freeV (some sg) = (sg : Int) from rfl]
        go_upto_region 6 with fail
        refine wp_region_lit ?_
        refine nR (.int .i64 (sg : Int)) (exec_move rfl rfl) ?_;simp only [zz];refine nR (.bool false) (ix_eql rfl rfl rfl (decide_eq_false (by omega))) ?_;simp only [zz]
        go_upto_region 8 with fail
        refine wp_region_alw (fun W => Blk W x 64 (walC p i v vP vH)) (by kernel_rfl) ?_
        have hS0 : (fun W => Blk W x 64 (walC p i v vP vH)) w2.drew := (H.out.still HT2.out).blk.drew
        have HD8 := Lib.hid ((Turn.refl nowhere w2).drew)
        generalize w2.drew = w3 at *
        have HT3 := Lib.hid (HT2.out.trans HD8.out fun _ _ e => e)
        clear HT2 HD8
        refine alw_take (i := 0) (v := .pointer (some ⟨x, 0, none⟩)) rfl (by kernel_rfl) (by kernel_rfl) (fun _ _ _ h => h) (.inl ⟨by rfl, fun W hW => exec_move rfl rfl⟩) hS0 ?_
        simp only [zz]
        refine alw_take (i := 1) (v := .pointer (some ⟨x, 0, none⟩)) rfl (by kernel_rfl) (by kernel_rfl) (fun _ _ _ h => h) (.inl ⟨by rfl, fun W hW => exec_nil rfl rfl⟩) hS0 ?_
        simp only [zz]
        refine alw_take (i := 2) (v := .pointer (some ⟨x, 2, none⟩)) rfl (by kernel_rfl) (by kernel_rfl) (fun _ _ _ h => h) (.inl ⟨by rfl, fun W hW => exec_field (off := 0) (d := 2) rfl rfl (by kernel_rfl)⟩) hS0 ?_
        simp only [zz]
        refine alw_take (i := 3) (v := .pointer (some ⟨x, 3, none⟩)) rfl (by kernel_rfl) (by kernel_rfl) (fun _ _ _ h => h) (.inl ⟨by rfl, fun W hW => exec_field (off := 2) (d := 1) rfl rfl (by kernel_rfl)⟩) hS0 ?_
        simp only [zz]
        refine alw_take (i := 4) (v := .int .i64 (v.age : Int)) rfl (by kernel_rfl) (by kernel_rfl) (fun _ _ _ h => h) (.inl ⟨by rfl, fun W hW => exec_load1 rfl rfl (by kernel_rfl) (hW.cell 3)⟩) hS0 ?_
        simp only [zz]
        refine alw_take (i := 5) (v := .pointer (some ⟨x, 0, none⟩)) rfl (by kernel_rfl) (by kernel_rfl) (fun _ _ _ h => h) (.inl ⟨by rfl, fun W hW => exec_move rfl rfl⟩) hS0 ?_
        simp only [zz]
        refine alw_take (i := 7) (v := .int .i64 (c : Int)) rfl (by kernel_rfl) (by kernel_rfl) (fun _ _ _ h => h) (.inl ⟨by rfl, fun W hW => exec_move rfl rfl⟩) hS0 ?_
        simp only [zz]
        refine alw_two (i := 6) (j := 9) (by kernel_rfl) rfl rfl rfl rfl ?_ ?_
        · intro K1 HK1
          go_wp2_with fail
          refine (Next_walk (H.out.still HT3.out) hfi).mono ?_
          rintro e w4 ⟨rfl, ht⟩
          have HT4 := Lib.hid (HT3.out.trans ht fun _ _ e => e)
          skip
          refine HK1.out _ _ ⟨(H.out.still HT4.out).blk, ?_⟩
          clear HK1 ht
          try simp only [zz]
          refine alw_take (i := 8) (v := .agg (stA ⟨v.age, v.first + v.places.length, c, 0⟩)) rfl (by kernel_rfl) (by kernel_rfl) (fun _ _ _ h => h) (.inl ⟨by rfl, fun W hW => gx_build3 rfl rfl rfl rfl (build_st3 _ _ _ _)⟩) (H.out.still HT4.out).blk ?_
          simp only [zz]
          refine alw_step (i := 9) (by kernel_rfl) rfl rfl ?_
          intro K1 HK1
          have hb_ := Blk.new w4 67 (stA ⟨0, 0, 0, 0⟩)
          have ht_ := (Turn.refl nowhere w4).alloc (.cells (stA ⟨0, 0, 0, 0⟩) 67)
          refine wp_run (v := .pointer (some ⟨w4.heap.size, 0, none⟩)) (w' := w4.alloc (.cells (stA ⟨0, 0, 0, 0⟩) 67)) (gx_alloc rfl (zero_st _)) ?_
          refine HK1.out _ _ ⟨(H.out.still (HT4.out.trans ht_ fun _ _ e => e)).blk, ?_⟩
          clear HK1
          try simp only [zz]
          obtain ⟨m, hm⟩ : ∃ m, m = w4.heap.size := ⟨_, rfl⟩
          have HMW := Lib.hid (show w.heap.size ≤ m by rw [hm]; exact HT4.out.size)
          rw [← hm] at hb_ ⊢
          have HT5 := Lib.hid (HT4.out.trans ht_ fun _ _ e => e)
          have HBn5 := Lib.hid hb_
          clear hm hb_ ht_
          generalize w4.alloc (.cells (stA ⟨0, 0, 0, 0⟩) 67) = w5 at *
          refine alw_step (i := 10) (by kernel_rfl) rfl rfl ?_
          intro K1 HK1
          refine wp_store_rowU 67 (.tmp 9) (.tmp 40) rfl (stA ⟨v.age, v.first + v.places.length, c, 0⟩) HBn5.out rfl rfl rfl (by rw [size_st]; rfl) (stA_one _) ?_
          intro w6 hb6 ht6
          have HT6 := Lib.hid (show Turn nowhere w w6 from HT5.out.trans ht6 fun k hk e => by have e : k = m := e; have := HMW.out; omega)
          refine HK1.out _ _ ⟨(H.out.still HT6.out).blk, ?_⟩
          clear HK1
          try simp only [zz]
          have HB6 := Lib.hid hb6
          clear hb6 ht6
          refine alw_done rfl ?_
          refine NoPanic.normal ?_
          clear hS0
          try simp only [zz]
          go_upto_region 9 with fail
          refine wp_region_lit ?_
          refine nR (.int .i64 (sg : Int)) (exec_move rfl rfl) ?_;simp only [zz]
          refine wpList_op rfl fun K9 HK9 => ?_
          go_wp2_with fail
          refine (begin_walk w6 sg (by omega)).mono ?_
          rintro e w6 ⟨rfl, rfl⟩
          refine HK9.out _ _ ?_
          clear HK9
          try simp only [zz]
          refine nR (.int .i64 0) (exec_move rfl rfl) ?_;simp only [zz];refine nR (.int .i64 ((2 + 64 * sg + 0 : Nat) : Int)) (ix_add rfl rfl rfl (by omega) (by omega)) ?_;simp only [zz];refine nR (.int .i64 ((2 + 64 * sg + 0 : Nat) : Int)) (gx_assign rfl rfl) ?_;simp only [zz]
          go_upto_region 10 with fail
          refine wp_region_alw (fun W => Blk W x 64 (walC p i v vP vH) ∧ Blk W m 67 (stA ⟨v.age, v.first + v.places.length, c, 0⟩)) (by kernel_rfl) ?_
          have hS0 : (fun W => Blk W x 64 (walC p i v vP vH) ∧ Blk W m 67 (stA ⟨v.age, v.first + v.places.length, c, 0⟩)) w6.drew := ⟨(H.out.still HT6.out).blk.drew, HB6.out.drew⟩
          have HD9 := Lib.hid ((Turn.refl nowhere w6).drew)
          generalize w6.drew = w7 at *
          have HT7 := Lib.hid (HT6.out.trans HD9.out fun _ _ e => e)
          clear HT6 HD9 HB6
          refine alw_take (i := 0) (v := .pointer (some ⟨x, 0, none⟩)) rfl (by kernel_rfl) (by kernel_rfl) (fun _ _ _ h => h) (.inl ⟨by rfl, fun W hW => exec_move rfl rfl⟩) hS0 ?_
          simp only [zz]
          refine alw_take (i := 1) (v := .pointer (some ⟨x, 0, none⟩)) rfl (by kernel_rfl) (by kernel_rfl) (fun _ _ _ h => h) (.inl ⟨by rfl, fun W hW => exec_nil rfl rfl⟩) hS0 ?_
          simp only [zz]
          refine alw_take (i := 2) (v := .pointer (some ⟨x, 0, none⟩)) rfl (by kernel_rfl) (by kernel_rfl) (fun _ _ _ h => h) (.inl ⟨by rfl, fun W hW => exec_field (off := 0) (d := 0) rfl rfl (by kernel_rfl)⟩) hS0 ?_
          simp only [zz]
          refine alw_take (i := 3) (v := .agg (dskV p i)) rfl (by kernel_rfl) (by kernel_rfl) (fun _ _ _ h => h) (.inl ⟨by rfl, fun W hW => gx_loads rfl rfl (wal_dsk hW.1) Tryd.underlying60 rfl (by rw [size_dsk]; rfl)⟩) hS0 ?_
          simp only [zz]
          refine alw_take (i := 4) (v := .int .i64 ((2 + 64 * sg + 0 : Nat) : Int)) rfl (by kernel_rfl) (by kernel_rfl) (fun _ _ _ h => h) (.inl ⟨by rfl, fun W hW => exec_move rfl rfl⟩) hS0 ?_
          simp only [zz]
          refine alw_take (i := 5) (v := .agg (stA ⟨v.age, v.first + v.places.length, c, 0⟩)) rfl (by kernel_rfl) (by kernel_rfl) (fun _ _ _ h => h) (.inl ⟨by rfl, fun W hW => gx_loads rfl rfl (blk_range hW.2) Tryd.underlying67 rfl (by rw [size_st]; rfl)⟩) hS0 ?_
          simp only [zz]
          refine alw_take (i := 6) (v := .slice A n cap) rfl (by kernel_rfl) (by kernel_rfl) (fun _ _ _ h => h) (.inl ⟨by rfl, fun W hW => exec_move rfl rfl⟩) hS0 ?_
          simp only [zz]
          refine alw_step (i := 7) (by kernel_rfl) rfl rfl ?_
          intro K1 HK1
          go_wp2_with fail
          refine (pack_walk w7 A n cap l (HL.out.still HT7.out) HLN.out.1 HLN.out.2).mono ?_
          rintro e w8 ⟨g, rfl, hgl, hrow, ht⟩
          have hS1 : Blk w8 x 64 (walC p i v vP vH) ∧ Blk w8 m 67 (stA ⟨v.age, v.first + v.places.length, c, 0⟩) := ⟨hS0.1.turn ht fun e => e, hS0.2.turn ht fun e => e⟩
          refine HK1.out _ _ ⟨⟨hS0.1.turn ht fun e => e, hS0.2.turn ht fun e => e⟩, ?_⟩
          clear HK1
          try simp only [zz]
          rw [← HC.out]
          have HT8 := Lib.hid (HT7.out.trans ht fun _ _ e => e)
          have HGW := Lib.hid (show w.heap.size ≤ g from Nat.le_trans HT7.out.size hgl)
          have HB8 := Lib.hid (show Bs w8 (some ⟨g, 0, none⟩) (40 * c) (Wl.pack l) from by
            have := blk_bs (show Blk w8 g 5 (byteCells (Wl.pack l)) from hrow) (off := 0) (k := 40 * c) (by rw [HPKL.out]; omega) (by unfold maxLen; omega)
            rwa [List.drop_zero, List.take_of_length_le (by rw [HPKL.out]; omega)] at this)
          have HGF := Lib.hid (show ∀ b, w.heap.size ≤ b → ¬ F b from fun b hb e => by have := HPL.out.lt e; omega)
          clear ht hgl hrow HT7
          refine alw_step (i := 8) (by kernel_rfl) rfl rfl ?_
          intro K1 HK1
          go_wp2_with fail
          refine (lay_walk (HPL.out.turn HT8.out fun _ _ e => e) (tab_still HTAB.out HT8.out) i d HD.out (2 + 64 * sg + 0) c (by have := HSS.out; omega) ycpos (by omega) ⟨v.age, v.first + v.places.length, c, 0⟩ (by show v.age ≤ _; omega) (by show v.first + v.places.length ≤ _; omega) (by show c ≤ _; omega) (some ⟨g, 0, none⟩) (40 * c) (Wl.pack l) HB8.out (Nat.le_refl _) (fun b off e => by injection e with e; injection e with e1 e2; subst e1; exact HGF.out _ HGW.out) (by omega)).mono ?_
          rintro e w9 ⟨e9, s9, rfl, hl, hgo⟩
          rw [HAST.out] at hl
          have HLD := Lib.hid hl
          have HGO := Lib.hid (Goes2.behind HT8.out hgo)
          have hS2 : Blk w9 x 64 (walC p i v vP vH) ∧ Blk w9 m 67 (stA ⟨v.age, v.first + v.places.length, c, 0⟩) := ⟨hS1.1.turn hgo.turned (HG.out x (.inl rfl)), hS1.2.turn hgo.turned (HGF.out m HMW.out)⟩
          clear hl hgo
          refine HK1.out _ _ ⟨hS2, ?_⟩
          clear HK1
          try simp only [zz]
          refine alw_take (i := 9) (v := .int .i64 e9) rfl (by kernel_rfl) (by kernel_rfl) (fun _ _ _ h => h) (.inl ⟨by rfl, fun W hW => gx_assign rfl rfl⟩) hS2 ?_
          simp only [zz]
          refine alw_done rfl ?_
          refine NoPanic.normal ?_
          clear hS0 hS1
          try simp only [zz]
          obtain ⟨F9, hp9, ht9, hf9⟩ := HGO.out
          have HM9 := Lib.hid hS2.2
          have HP9 := Lib.hid hp9
          have HT9 := Lib.hid ht9
          have HF9 := Lib.hid hf9
          have HW9 := Lib.hid (H.out.turn ht9 fun b hb => HG.out b hb)
          have HGL := Lib.hid (show ∀ b, WalG x vP vH b → b < w.heap.size from fun b hb => by
            rcases hb with e | e | e
            · rw [e]; exact H.out.blk.lt
            · exact (H.out.pl.lt e).1
            · exact (H.out.he.lt e).1)
          have HGF9 := Lib.hid (show ∀ b, WalG x vP vH b → ¬ F9 b from fun b hb e => (hf9 b e).elim (HG.out b hb) fun e2 => by have := HGL.out b hb; omega)
          clear hS2 hp9 ht9 hf9
          by_cases he : e9 = 0
          · subst he
            go_upto_region 11 with fail
            refine wp_region_lit ?_
            refine nR (.int .i64 0) (exec_move rfl rfl) ?_;simp only [zz];refine nR (.bool false) (ix_neq rfl rfl rfl (by decide)) ?_;simp only [zz]
            go_upto_region 13 with fail
            refine wp_region_lit ?_
            refine nR (.pointer (some ⟨x, 0, none⟩)) (exec_move rfl rfl) ?_;simp only [zz];refine nR (.int .i64 ((2 + 64 * sg + 0 : Nat) : Int)) (exec_move rfl rfl) ?_;simp only [zz];refine nR (.int .i64 (c : Int)) (exec_move rfl rfl) ?_;simp only [zz]
            have hsgP : (2 + 64 * sg + 0 - 2) / 64 = sg := by omega
            refine wpList_op rfl fun K9 HK9 => ?_
            go_wp2_with fail
            refine (add_walk2 HW9.out (2 + 64 * sg + 0) c (by omega) (by omega) (by omega) (by rw [hsgP]; exact ysg) (HHE.out _) hpl).mono ?_
            rintro e wa ⟨rfl, vP2, hwb, hta, howa⟩
            refine HK9.out _ _ ?_
            clear HK9
            try simp only [zz]
            have HWB := Lib.hid hwb
            have HTA := Lib.hid hta
            have HOWA := Lib.hid howa
            have HMA := Lib.hid (HM9.out.turn hta fun e => by have := HGL.out m e; have := HMW.out; omega)
            have HPA := Lib.hid (HP9.out.turn hta fun b hb e => HGF9.out b e hb)
            have HGA := Lib.hid (show ∀ b, WalG x vP2 vH b → ¬ F9 b from fun b hb e => by
              rcases hb with e2 | e2 | e2
              · exact HGF9.out b (.inl e2) e
              · rcases howa b e2 with e3 | e3
                · exact HGF9.out b (.inr (.inl e3)) e
                · have := HP9.out.lt e; omega
              · exact HGF9.out b (.inr (.inr e2)) e)
            clear hwb hta howa hsgP
            go_upto_region 14 with fail
            refine wp_region_lit ?_
            refine nR (.pointer (some ⟨m, 1, none⟩)) (exec_field (off := 0) (d := 1) rfl rfl (by kernel_rfl)) ?_;simp only [zz];refine nR (.int .i64 ((v.first + v.places.length : Nat) : Int)) (exec_load1 rfl rfl (by kernel_rfl) (HMA.out.cell 1)) ?_;simp only [zz];refine nR (.int .i64 ((v.first + v.places.length : Nat) : Int)) (gx_assign rfl rfl) ?_;simp only [zz];refine nR (.int .i64 0) (gx_assign rfl rfl) ?_;simp only [zz]
            go_wp2_with fail
            go_ret2
            refine .inr (.inr ⟨HLONG.out, sg, 0, 0, s9, F9, HPI.out, ?_, ?_, (HT9.out.mono fun _ _ e => .inl e).trans HTA.out fun b _ e => .inr e, HF9.out, .inl ⟨rfl, rfl, vP2, ?_, HGA.out, fun b e => (HOWA.out b e).imp id fun e => Nat.le_trans HT9.out.size e⟩⟩)
            · rw [← HC.out]; exact HLD.out
            · rw [← HC.out]; exact HPA.out
            · rw [← HC.out]; exact HWB.out
          · go_upto_region 11 with fail
            refine wp_region_lit ?_
            refine nR (.int .i64 e9) (exec_move rfl rfl) ?_;simp only [zz];refine nR (.bool true) (ix_neq rfl rfl rfl (decide_eq_true he)) ?_;simp only [zz]
            go_upto_region 12 with fail
            refine wp_region_lit ?_
            refine nR (.int .i64 e9) (exec_move rfl rfl) ?_;simp only [zz];refine nR (.int .i64 0) (gx_assign rfl rfl) ?_;simp only [zz];refine nR (.int .i64 e9) (gx_assign rfl rfl) ?_;simp only [zz]
            go_wp2_with fail
            go_ret2
            refine .inr (.inr ⟨HLONG.out, sg, 0, e9, s9, F9, HPI.out, ?_, ?_, HT9.out.mono fun _ _ e => .inl e, HF9.out, .inr ⟨he, rfl, HW9.out⟩⟩)
            · rw [← HC.out]; exact HLD.out
            · rw [← HC.out]; exact HP9.out
        · intro K1 HK1
          have hb_ := Blk.new w3 67 (stA ⟨0, 0, 0, 0⟩)
          have ht_ := (Turn.refl nowhere w3).alloc (.cells (stA ⟨0, 0, 0, 0⟩) 67)
          refine wp_run (v := .pointer (some ⟨w3.heap.size, 0, none⟩)) (w' := w3.alloc (.cells (stA ⟨0, 0, 0, 0⟩) 67)) (gx_alloc rfl (zero_st _)) ?_
          refine HK1.out _ _ ⟨(H.out.still (HT3.out.trans ht_ fun _ _ e => e)).blk, ?_⟩
          clear HK1
          try simp only [zz]
          obtain ⟨m, hm⟩ : ∃ m, m = w3.heap.size := ⟨_, rfl⟩
          have HMW := Lib.hid (show w.heap.size ≤ m by rw [hm]; exact HT3.out.size)
          rw [← hm] at hb_ ⊢
          have HT4 := Lib.hid (HT3.out.trans ht_ fun _ _ e => e)
          have HBn4 := Lib.hid hb_
          clear hm hb_ ht_
          generalize w3.alloc (.cells (stA ⟨0, 0, 0, 0⟩) 67) = w4 at *
          refine alw_step (i := 6) (by kernel_rfl) rfl rfl ?_
          intro K1 HK1
          go_wp2_with fail
          refine (Next_walk (H.out.still HT4.out) hfi).mono ?_
          rintro e w5 ⟨rfl, ht⟩
          have HT5 := Lib.hid (HT4.out.trans ht fun _ _ e => e)
          have HBn5 := Lib.hid (HBn4.out.turn ht fun e => e)
          refine HK1.out _ _ ⟨(H.out.still HT5.out).blk, ?_⟩
          clear HK1 ht
          try simp only [zz]
          refine alw_take (i := 8) (v := .agg (stA ⟨v.age, v.first + v.places.length, c, 0⟩)) rfl (by kernel_rfl) (by kernel_rfl) (fun _ _ _ h => h) (.inl ⟨by rfl, fun W hW => gx_build3 rfl rfl rfl rfl (build_st3 _ _ _ _)⟩) (H.out.still HT5.out).blk ?_
          simp only [zz]
          refine alw_step (i := 10) (by kernel_rfl) rfl rfl ?_
          intro K1 HK1
          refine wp_store_rowU 67 (.tmp 9) (.tmp 40) rfl (stA ⟨v.age, v.first + v.places.length, c, 0⟩) HBn5.out rfl rfl rfl (by rw [size_st]; rfl) (stA_one _) ?_
          intro w6 hb6 ht6
          have HT6 := Lib.hid (show Turn nowhere w w6 from HT5.out.trans ht6 fun k hk e => by have e : k = m := e; have := HMW.out; omega)
          refine HK1.out _ _ ⟨(H.out.still HT6.out).blk, ?_⟩
          clear HK1
          try simp only [zz]
          have HB6 := Lib.hid hb6
          clear hb6 ht6
          refine alw_done rfl ?_
          refine NoPanic.normal ?_
          clear hS0
          try simp only [zz]
          go_upto_region 9 with fail
          refine wp_region_lit ?_
          refine nR (.int .i64 (sg : Int)) (exec_move rfl rfl) ?_;simp only [zz]
          refine wpList_op rfl fun K9 HK9 => ?_
          go_wp2_with fail
          refine (begin_walk w6 sg (by omega)).mono ?_
          rintro e w6 ⟨rfl, rfl⟩
          refine HK9.out _ _ ?_
          clear HK9
          try simp only [zz]
          refine nR (.int .i64 0) (exec_move rfl rfl) ?_;simp only [zz];refine nR (.int .i64 ((2 + 64 * sg + 0 : Nat) : Int)) (ix_add rfl rfl rfl (by omega) (by omega)) ?_;simp only [zz];refine nR (.int .i64 ((2 + 64 * sg + 0 : Nat) : Int)) (gx_assign rfl rfl) ?_;simp only [zz]
          go_upto_region 10 with fail
          refine wp_region_alw (fun W => Blk W x 64 (walC p i v vP vH) ∧ Blk W m 67 (stA ⟨v.age, v.first + v.places.length, c, 0⟩)) (by kernel_rfl) ?_
          have hS0 : (fun W => Blk W x 64 (walC p i v vP vH) ∧ Blk W m 67 (stA ⟨v.age, v.first + v.places.length, c, 0⟩)) w6.drew := ⟨(H.out.still HT6.out).blk.drew, HB6.out.drew⟩
          have HD9 := Lib.hid ((Turn.refl nowhere w6).drew)
          generalize w6.drew = w7 at *
          have HT7 := Lib.hid (HT6.out.trans HD9.out fun _ _ e => e)
          clear HT6 HD9 HB6
          refine alw_take (i := 0) (v := .pointer (some ⟨x, 0, none⟩)) rfl (by kernel_rfl) (by kernel_rfl) (fun _ _ _ h => h) (.inl ⟨by rfl, fun W hW => exec_move rfl rfl⟩) hS0 ?_
          simp only [zz]
          refine alw_take (i := 1) (v := .pointer (some ⟨x, 0, none⟩)) rfl (by kernel_rfl) (by kernel_rfl) (fun _ _ _ h => h) (.inl ⟨by rfl, fun W hW => exec_nil rfl rfl⟩) hS0 ?_
          simp only [zz]
          refine alw_take (i := 2) (v := .pointer (some ⟨x, 0, none⟩)) rfl (by kernel_rfl) (by kernel_rfl) (fun _ _ _ h => h) (.inl ⟨by rfl, fun W hW => exec_field (off := 0) (d := 0) rfl rfl (by kernel_rfl)⟩) hS0 ?_
          simp only [zz]
          refine alw_take (i := 3) (v := .agg (dskV p i)) rfl (by kernel_rfl) (by kernel_rfl) (fun _ _ _ h => h) (.inl ⟨by rfl, fun W hW => gx_loads rfl rfl (wal_dsk hW.1) Tryd.underlying60 rfl (by rw [size_dsk]; rfl)⟩) hS0 ?_
          simp only [zz]
          refine alw_take (i := 4) (v := .int .i64 ((2 + 64 * sg + 0 : Nat) : Int)) rfl (by kernel_rfl) (by kernel_rfl) (fun _ _ _ h => h) (.inl ⟨by rfl, fun W hW => exec_move rfl rfl⟩) hS0 ?_
          simp only [zz]
          refine alw_take (i := 5) (v := .agg (stA ⟨v.age, v.first + v.places.length, c, 0⟩)) rfl (by kernel_rfl) (by kernel_rfl) (fun _ _ _ h => h) (.inl ⟨by rfl, fun W hW => gx_loads rfl rfl (blk_range hW.2) Tryd.underlying67 rfl (by rw [size_st]; rfl)⟩) hS0 ?_
          simp only [zz]
          refine alw_take (i := 6) (v := .slice A n cap) rfl (by kernel_rfl) (by kernel_rfl) (fun _ _ _ h => h) (.inl ⟨by rfl, fun W hW => exec_move rfl rfl⟩) hS0 ?_
          simp only [zz]
          refine alw_step (i := 7) (by kernel_rfl) rfl rfl ?_
          intro K1 HK1
          go_wp2_with fail
          refine (pack_walk w7 A n cap l (HL.out.still HT7.out) HLN.out.1 HLN.out.2).mono ?_
          rintro e w8 ⟨g, rfl, hgl, hrow, ht⟩
          have hS1 : Blk w8 x 64 (walC p i v vP vH) ∧ Blk w8 m 67 (stA ⟨v.age, v.first + v.places.length, c, 0⟩) := ⟨hS0.1.turn ht fun e => e, hS0.2.turn ht fun e => e⟩
          refine HK1.out _ _ ⟨⟨hS0.1.turn ht fun e => e, hS0.2.turn ht fun e => e⟩, ?_⟩
          clear HK1
          try simp only [zz]
          rw [← HC.out]
          have HT8 := Lib.hid (HT7.out.trans ht fun _ _ e => e)
          have HGW := Lib.hid (show w.heap.size ≤ g from Nat.le_trans HT7.out.size hgl)
          have HB8 := Lib.hid (show Bs w8 (some ⟨g, 0, none⟩) (40 * c) (Wl.pack l) from by
            have := blk_bs (show Blk w8 g 5 (byteCells (Wl.pack l)) from hrow) (off := 0) (k := 40 * c) (by rw [HPKL.out]; omega) (by unfold maxLen; omega)
            rwa [List.drop_zero, List.take_of_length_le (by rw [HPKL.out]; omega)] at this)
          have HGF := Lib.hid (show ∀ b, w.heap.size ≤ b → ¬ F b from fun b hb e => by have := HPL.out.lt e; omega)
          clear ht hgl hrow HT7
          refine alw_step (i := 8) (by kernel_rfl) rfl rfl ?_
          intro K1 HK1
          go_wp2_with fail
          refine (lay_walk (HPL.out.turn HT8.out fun _ _ e => e) (tab_still HTAB.out HT8.out) i d HD.out (2 + 64 * sg + 0) c (by have := HSS.out; omega) ycpos (by omega) ⟨v.age, v.first + v.places.length, c, 0⟩ (by show v.age ≤ _; omega) (by show v.first + v.places.length ≤ _; omega) (by show c ≤ _; omega) (some ⟨g, 0, none⟩) (40 * c) (Wl.pack l) HB8.out (Nat.le_refl _) (fun b off e => by injection e with e; injection e with e1 e2; subst e1; exact HGF.out _ HGW.out) (by omega)).mono ?_
          rintro e w9 ⟨e9, s9, rfl, hl, hgo⟩
          rw [HAST.out] at hl
          have HLD := Lib.hid hl
          have HGO := Lib.hid (Goes2.behind HT8.out hgo)
          have hS2 : Blk w9 x 64 (walC p i v vP vH) ∧ Blk w9 m 67 (stA ⟨v.age, v.first + v.places.length, c, 0⟩) := ⟨hS1.1.turn hgo.turned (HG.out x (.inl rfl)), hS1.2.turn hgo.turned (HGF.out m HMW.out)⟩
          clear hl hgo
          refine HK1.out _ _ ⟨hS2, ?_⟩
          clear HK1
          try simp only [zz]
          refine alw_take (i := 9) (v := .int .i64 e9) rfl (by kernel_rfl) (by kernel_rfl) (fun _ _ _ h => h) (.inl ⟨by rfl, fun W hW => gx_assign rfl rfl⟩) hS2 ?_
          simp only [zz]
          refine alw_done rfl ?_
          refine NoPanic.normal ?_
          clear hS0 hS1
          try simp only [zz]
          obtain ⟨F9, hp9, ht9, hf9⟩ := HGO.out
          have HM9 := Lib.hid hS2.2
          have HP9 := Lib.hid hp9
          have HT9 := Lib.hid ht9
          have HF9 := Lib.hid hf9
          have HW9 := Lib.hid (H.out.turn ht9 fun b hb => HG.out b hb)
          have HGL := Lib.hid (show ∀ b, WalG x vP vH b → b < w.heap.size from fun b hb => by
            rcases hb with e | e | e
            · rw [e]; exact H.out.blk.lt
            · exact (H.out.pl.lt e).1
            · exact (H.out.he.lt e).1)
          have HGF9 := Lib.hid (show ∀ b, WalG x vP vH b → ¬ F9 b from fun b hb e => (hf9 b e).elim (HG.out b hb) fun e2 => by have := HGL.out b hb; omega)
          clear hS2 hp9 ht9 hf9
          by_cases he : e9 = 0
          · subst he
            go_upto_region 11 with fail
            refine wp_region_lit ?_
            refine nR (.int .i64 0) (exec_move rfl rfl) ?_;simp only [zz];refine nR (.bool false) (ix_neq rfl rfl rfl (by decide)) ?_;simp only [zz]
            go_upto_region 13 with fail
            refine wp_region_lit ?_
            refine nR (.pointer (some ⟨x, 0, none⟩)) (exec_move rfl rfl) ?_;simp only [zz];refine nR (.int .i64 ((2 + 64 * sg + 0 : Nat) : Int)) (exec_move rfl rfl) ?_;simp only [zz];refine nR (.int .i64 (c : Int)) (exec_move rfl rfl) ?_;simp only [zz]
            have hsgP : (2 + 64 * sg + 0 - 2) / 64 = sg := by omega
            refine wpList_op rfl fun K9 HK9 => ?_
            go_wp2_with fail
            refine (add_walk2 HW9.out (2 + 64 * sg + 0) c (by omega) (by omega) (by omega) (by rw [hsgP]; exact ysg) (HHE.out _) hpl).mono ?_
            rintro e wa ⟨rfl, vP2, hwb, hta, howa⟩
            refine HK9.out _ _ ?_
            clear HK9
            try simp only [zz]
            have HWB := Lib.hid hwb
            have HTA := Lib.hid hta
            have HOWA := Lib.hid howa
            have HMA := Lib.hid (HM9.out.turn hta fun e => by have := HGL.out m e; have := HMW.out; omega)
            have HPA := Lib.hid (HP9.out.turn hta fun b hb e => HGF9.out b e hb)
            have HGA := Lib.hid (show ∀ b, WalG x vP2 vH b → ¬ F9 b from fun b hb e => by
              rcases hb with e2 | e2 | e2
              · exact HGF9.out b (.inl e2) e
              · rcases howa b e2 with e3 | e3
                · exact HGF9.out b (.inr (.inl e3)) e
                · have := HP9.out.lt e; omega
              · exact HGF9.out b (.inr (.inr e2)) e)
            clear hwb hta howa hsgP
            go_upto_region 14 with fail
            refine wp_region_lit ?_
            refine nR (.pointer (some ⟨m, 1, none⟩)) (exec_field (off := 0) (d := 1) rfl rfl (by kernel_rfl)) ?_;simp only [zz];refine nR (.int .i64 ((v.first + v.places.length : Nat) : Int)) (exec_load1 rfl rfl (by kernel_rfl) (HMA.out.cell 1)) ?_;simp only [zz];refine nR (.int .i64 ((v.first + v.places.length : Nat) : Int)) (gx_assign rfl rfl) ?_;simp only [zz];refine nR (.int .i64 0) (gx_assign rfl rfl) ?_;simp only [zz]
            go_wp2_with fail
            go_ret2
            refine .inr (.inr ⟨HLONG.out, sg, 0, 0, s9, F9, HPI.out, ?_, ?_, (HT9.out.mono fun _ _ e => .inl e).trans HTA.out fun b _ e => .inr e, HF9.out, .inl ⟨rfl, rfl, vP2, ?_, HGA.out, fun b e => (HOWA.out b e).imp id fun e => Nat.le_trans HT9.out.size e⟩⟩)
            · rw [← HC.out]; exact HLD.out
            · rw [← HC.out]; exact HPA.out
            · rw [← HC.out]; exact HWB.out
          · go_upto_region 11 with fail
            refine wp_region_lit ?_
            refine nR (.int .i64 e9) (exec_move rfl rfl) ?_;simp only [zz];refine nR (.bool true) (ix_neq rfl rfl rfl (decide_eq_true he)) ?_;simp only [zz]
            go_upto_region 12 with fail
            refine wp_region_lit ?_
            refine nR (.int .i64 e9) (exec_move rfl rfl) ?_;simp only [zz];refine nR (.int .i64 0) (gx_assign rfl rfl) ?_;simp only [zz];refine nR (.int .i64 e9) (gx_assign rfl rfl) ?_;simp only [zz]
            go_wp2_with fail
            go_ret2
            refine .inr (.inr ⟨HLONG.out, sg, 0, e9, s9, F9, HPI.out, ?_, ?_, HT9.out.mono fun _ _ e => .inl e, HF9.out, .inr ⟨he, rfl, HW9.out⟩⟩)
            · rw [← HC.out]; exact HLD.out
            · rw [← HC.out]; exact HP9.out
end Go.Proofs.YtelipeoilcepbaaDoor
