/-
  Texts in one file: WmC. Conditions: the tables and the errors read as the program's text lays them.
-/
import Derived.Test.YtelipeoilcepbaaDoorWp0
import Derived.Test.YtelipeoilcepbaaDoorWp25
namespace Go.Proofs.YtelipeoilcepbaaDoor
open Go.RowKit
open Wl (B8)
set_option linter.unusedVariables false
set_option linter.unusedSimpArgs false
set_option maxRecDepth 20000
open Wl (grp)
noncomputable def readV (D : Wl.Disk) (E P no : Nat) : Option (List B8) := match grp D E P with
  | none => none
  | some (s, t) => match Wl.unpack Crc.sumN s t with
    | none => none
    | some l => if s.no = no then some l else none
def ReadP (w : World) (v : WalV) (d : AD) (on : Bool) (no : Int) (r : Ending) (w' : World) : Prop :=
  Turn nowhere w w' ∧ ((¬ ((v.first : Int) ≤ no ∧ no < (v.first : Int) + v.places.length) ∧ r = .returned (.tuple #[.slice none 0 0, .int .i64 1])) ∨
    ∃ (k P : Nat), no = ((v.first + k : Nat) : Int) ∧ v.places[k]? = some P ∧
      ((on = false ∧ r = .returned (.tuple #[.slice none 0 0, .int .i64 2])) ∨
       (on = true ∧ readV (dkD d) (2 + 64 * ((P - 2) / 64 + 1)) P (v.first + k) = none ∧ r = .returned (.tuple #[.slice none 0 0, .int .i64 4])) ∨
       (on = true ∧ ∃ l g, readV (dkD d) (2 + 64 * ((P - 2) / 64 + 1)) P (v.first + k) = some l ∧ r = .returned (.tuple #[.slice (some ⟨g, 0, none⟩) l.length l.length, .int .i64 0]) ∧ Ls w' (some ⟨g, 0, none⟩) l.length l ∧ w.heap.size ≤ g ∧ ∃ b0, w.heap.size ≤ b0 ∧ Firsts w' g b0 l.length l.length l)))
theorem unpack_nil (s : Wl.Stamp) : Wl.unpack Crc.sumN s [] = none := u_short (by decide)
set_option maxRecDepth 20000 in
set_option maxHeartbeats 4000000 in
theorem WalRead_walk {w : World} {x p i : Nat} {v : WalV} {vP vH : Value} (h : WalB w x p i v vP vH) {F : Nat → Prop} {s : AP} {K : Nat} (hp : PlantAt w p F s K) (htab : Tab w) (d : AD) (hd : s.ds[i]? = some d)
    (hfi : v.first ≤ 1099511627776) (hpl : ∀ (k P : Nat), v.places[k]? = some P → 2 ≤ P ∧ ((2 + 64 * ((P - 2) / 64 + 1) : Nat) : Int) ≤ d.n) (no : Int) (hno : -9223372036854775808 ≤ no ∧ no ≤ 9223372036854775807) :
    Calls Tryd.prog 20 #[.pointer (some ⟨x, 0, none⟩), .int .i64 no] w fun r w' => ReadP w v d s.on no r w' := by
  have H := Lib.hid h
  have HPL := Lib.hid hp
  have HTAB := Lib.hid htab
  have HD := Lib.hid hd
  have HPP := Lib.hid hpl
  have ypl : v.places.length ≤ 1099511627776 := by
    obtain ⟨A', c', e, h1, h2, _⟩ := h.pl
    exact h2.2
  clear h hp htab hd hpl
  go_enter Tryd.func20, Tryd.ntmps20
  go_upto_region 0 with fail
  refine wp_region_lit ?_
  refine nR (.slice none 0 0) (gx_assign rfl rfl) ?_;simp only [zz];refine nR (.int .i64 0) (gx_assign rfl rfl) ?_;simp only [zz]
  by_cases hlo : no < (v.first : Int)
  · go_upto_region 1 with fail
    first
    | (rename_i K9 hK9; have HKC := Lib.hid hK9; clear hK9)
    | (rename_i K9 hK9 K8; have HKC := Lib.hid hK9; clear hK9)
    refine wp_region_lit ?_
    refine nR (.int .i64 no) (exec_move rfl rfl) ?_;simp only [zz];refine nR (.pointer (some ⟨x, 0, none⟩)) (exec_move rfl rfl) ?_;simp only [zz];refine nR (.pointer (some ⟨x, 0, none⟩)) (exec_nil rfl rfl) ?_;simp only [zz];refine nR (.pointer (some ⟨x, 2, none⟩)) (exec_field (off := 0) (d := 2) rfl rfl (by kernel_rfl)) ?_;simp only [zz];refine nR (.pointer (some ⟨x, 4, none⟩)) (exec_field (off := 2) (d := 2) rfl rfl (by kernel_rfl)) ?_;simp only [zz];refine nR (.int .i64 (v.first : Int)) (exec_load1 rfl rfl (by kernel_rfl) (H.out.blk.cell 4)) ?_;simp only [zz];refine nR (.bool true) (ix_lss rfl rfl rfl (decide_eq_true hlo)) ?_;simp only [zz];refine nR (.bool true) (exec_move rfl rfl) ?_;simp only [zz]
    go_wp2_with fail
    refine HKC.out _ _ ?_
    clear HKC
    go_upto_region 2 with fail
    refine wp_region_lit ?_
    refine nR (.slice none 0 0) (gx_assign rfl rfl) ?_;simp only [zz];refine nR (.int .i64 1) (gx_assign rfl rfl) ?_;simp only [zz]
    go_wp2_with fail
    go_ret2
    exact ⟨Turn.refl _ _, .inl ⟨by omega, rfl⟩⟩
  · go_upto_region 1 with fail
    refine wp_region_lit ?_
    refine nR (.int .i64 no) (exec_move rfl rfl) ?_;simp only [zz];refine nR (.pointer (some ⟨x, 0, none⟩)) (exec_move rfl rfl) ?_;simp only [zz];refine nR (.pointer (some ⟨x, 0, none⟩)) (exec_nil rfl rfl) ?_;simp only [zz];refine nR (.pointer (some ⟨x, 2, none⟩)) (exec_field (off := 0) (d := 2) rfl rfl (by kernel_rfl)) ?_;simp only [zz];refine nR (.pointer (some ⟨x, 4, none⟩)) (exec_field (off := 2) (d := 2) rfl rfl (by kernel_rfl)) ?_;simp only [zz];refine nR (.int .i64 (v.first : Int)) (exec_load1 rfl rfl (by kernel_rfl) (H.out.blk.cell 4)) ?_;simp only [zz];refine nR (.bool false) (ix_lss rfl rfl rfl (decide_eq_false hlo)) ?_;simp only [zz];refine nR (.bool false) (exec_move rfl rfl) ?_;simp only [zz];refine wpList_run (v := .int .i64 no) rfl (exec_move rfl rfl) ?_;simp only [zz];refine wpList_run (v := .pointer (some ⟨x, 0, none⟩)) rfl (exec_move rfl rfl) ?_;simp only [zz]
    refine wpList_op rfl fun K9 HK9 => ?_
    go_wp2_with fail
    refine (Next_walk H.out hfi).mono ?_
    rintro e w1 ⟨rfl, ht⟩
    refine HK9.out _ _ ?_
    clear HK9
    try simp only [zz]
    have HT1 := Lib.hid ht
    clear ht
    by_cases hhi : (v.first : Int) + v.places.length ≤ no
    · refine wpList_run (v := .bool true) rfl (ix_geq rfl rfl rfl (decide_eq_true (by omega))) ?_
      simp only [zz];refine nR (.bool true) (ix_pickF rfl rfl rfl) ?_;simp only [zz]
      go_upto_region 2 with fail
      refine wp_region_lit ?_
      refine nR (.slice none 0 0) (gx_assign rfl rfl) ?_;simp only [zz];refine nR (.int .i64 1) (gx_assign rfl rfl) ?_;simp only [zz]
      go_wp2_with fail
      go_ret2
      exact ⟨HT1.out, .inl ⟨by omega, rfl⟩⟩
    · refine wpList_run (v := .bool false) rfl (ix_geq rfl rfl rfl (decide_eq_false (by omega))) ?_
      simp only [zz];refine nR (.bool false) (ix_pickF rfl rfl rfl) ?_;simp only [zz]
      obtain ⟨k, hk⟩ := Int.eq_ofNat_of_zero_le (show 0 ≤ no - v.first by omega)
      have hno2 : no = ((v.first + k : Nat) : Int) := by omega
      subst hno2
      have hkl : k < v.places.length := by omega
      obtain ⟨P, hP⟩ : ∃ P, v.places[k]? = some P := ⟨_, List.getElem?_eq_getElem hkl⟩
      obtain ⟨gP, oP, cP, hvP, hcell⟩ := H.out.pl.at_ hP
      have HKL := Lib.hid hkl
      have HPK := Lib.hid hP
      have hpp := HPP.out k P hP
      have HPE := Lib.hid hpp.2
      have yP2 : 2 ≤ P := hpp.1
      have HCE := Lib.hid (show w1.cell? ⟨gP, oP + k, none⟩ = some (.int .i64 ((P : Nat) : Int)) from (HT1.out.cell (World.block_lt_of_cell? _ _ hcell) fun e => e).trans hcell)
      have HVP := Lib.hid hvP
      clear hk hlo hhi hP hcell hvP hpp hkl
      go_upto_region 3 with fail
      refine wp_region_alw (fun W => Blk W x 64 (walC p i v vP vH) ∧ W.cell? ⟨gP, oP + k, none⟩ = some (.int .i64 ((P : Nat) : Int))) (by kernel_rfl) ?_
      have hS0 : (fun W => Blk W x 64 (walC p i v vP vH) ∧ W.cell? ⟨gP, oP + k, none⟩ = some (.int .i64 ((P : Nat) : Int))) w1.drew := ⟨(H.out.still HT1.out).blk.drew, HCE.out⟩
      have HD3 := Lib.hid ((Turn.refl nowhere w1).drew)
      generalize w1.drew = w2 at *
      have HT2 := Lib.hid (HT1.out.trans HD3.out fun _ _ e => e)
      clear HT1 HD3
      refine alw_take (i := 0) (v := .pointer (some ⟨x, 0, none⟩)) rfl (by kernel_rfl) (by kernel_rfl) (fun _ _ _ h => h) (.inl ⟨by rfl, fun W hW => exec_move rfl rfl⟩) hS0 ?_
      simp only [zz]
      refine alw_take (i := 1) (v := .pointer (some ⟨x, 0, none⟩)) rfl (by kernel_rfl) (by kernel_rfl) (fun _ _ _ h => h) (.inl ⟨by rfl, fun W hW => exec_nil rfl rfl⟩) hS0 ?_
      simp only [zz]
      refine alw_take (i := 2) (v := .pointer (some ⟨x, 0, none⟩)) rfl (by kernel_rfl) (by kernel_rfl) (fun _ _ _ h => h) (.inl ⟨by rfl, fun W hW => exec_field (off := 0) (d := 0) rfl rfl (by kernel_rfl)⟩) hS0 ?_
      simp only [zz]
      refine alw_take (i := 3) (v := .agg (dskV p i)) rfl (by kernel_rfl) (by kernel_rfl) (fun _ _ _ h => h) (.inl ⟨by rfl, fun W hW => gx_loads rfl rfl (wal_dsk hW.1) Tryd.underlying60 rfl (by rw [size_dsk]; rfl)⟩) hS0 ?_
      simp only [zz]
      refine alw_take (i := 4) (v := .pointer (some ⟨x, 0, none⟩)) rfl (by kernel_rfl) (by kernel_rfl) (fun _ _ _ h => h) (.inl ⟨by rfl, fun W hW => exec_move rfl rfl⟩) hS0 ?_
      simp only [zz]
      refine alw_take (i := 5) (v := .pointer (some ⟨x, 0, none⟩)) rfl (by kernel_rfl) (by kernel_rfl) (fun _ _ _ h => h) (.inl ⟨by rfl, fun W hW => exec_nil rfl rfl⟩) hS0 ?_
      simp only [zz]
      refine alw_take (i := 6) (v := .pointer (some ⟨x, 6, none⟩)) rfl (by kernel_rfl) (by kernel_rfl) (fun _ _ _ h => h) (.inl ⟨by rfl, fun W hW => exec_field (off := 0) (d := 6) rfl rfl (by kernel_rfl)⟩) hS0 ?_
      simp only [zz]
      refine alw_take (i := 7) (v := .slice (some ⟨gP, oP, none⟩) v.places.length cP) rfl (by kernel_rfl) (by kernel_rfl) (fun _ _ _ h => h) (.inl ⟨by rfl, fun W hW => exec_load1 rfl rfl (by kernel_rfl) ((hW.1.cell 6).trans (by rw [← HVP.out]; rfl))⟩) hS0 ?_
      simp only [zz]
      refine alw_take (i := 8) (v := .int .i64 ((v.first + k : Nat) : Int)) rfl (by kernel_rfl) (by kernel_rfl) (fun _ _ _ h => h) (.inl ⟨by rfl, fun W hW => exec_move rfl rfl⟩) hS0 ?_
      simp only [zz]
      refine alw_take (i := 9) (v := .pointer (some ⟨x, 0, none⟩)) rfl (by kernel_rfl) (by kernel_rfl) (fun _ _ _ h => h) (.inl ⟨by rfl, fun W hW => exec_move rfl rfl⟩) hS0 ?_
      simp only [zz]
      refine alw_take (i := 10) (v := .pointer (some ⟨x, 0, none⟩)) rfl (by kernel_rfl) (by kernel_rfl) (fun _ _ _ h => h) (.inl ⟨by rfl, fun W hW => exec_nil rfl rfl⟩) hS0 ?_
      simp only [zz]
      refine alw_take (i := 11) (v := .pointer (some ⟨x, 2, none⟩)) rfl (by kernel_rfl) (by kernel_rfl) (fun _ _ _ h => h) (.inl ⟨by rfl, fun W hW => exec_field (off := 0) (d := 2) rfl rfl (by kernel_rfl)⟩) hS0 ?_
      simp only [zz]
      refine alw_take (i := 12) (v := .pointer (some ⟨x, 4, none⟩)) rfl (by kernel_rfl) (by kernel_rfl) (fun _ _ _ h => h) (.inl ⟨by rfl, fun W hW => exec_field (off := 2) (d := 2) rfl rfl (by kernel_rfl)⟩) hS0 ?_
      simp only [zz]
      refine alw_take (i := 13) (v := .int .i64 (v.first : Int)) rfl (by kernel_rfl) (by kernel_rfl) (fun _ _ _ h => h) (.inl ⟨by rfl, fun W hW => exec_load1 rfl rfl (by kernel_rfl) (hW.1.cell 4)⟩) hS0 ?_
      simp only [zz]
      refine alw_take (i := 14) (v := .int .i64 (k : Int)) rfl (by kernel_rfl) (by kernel_rfl) (fun _ _ _ h => h) (.inl ⟨by rfl, fun W hW => ix_sub rfl rfl rfl (by omega) (by omega)⟩) hS0 ?_
      simp only [zz]
      refine alw_take (i := 15) (v := .pointer (some ⟨gP, oP + k, none⟩)) rfl (by kernel_rfl) (by kernel_rfl) (fun _ _ _ h => h) (.inl ⟨by rfl, fun W hW => gx_iaddr (i := k) (sz := 1) rfl rfl rfl Tryd.underlying34 size_int HKL.out (by omega)⟩) hS0 ?_
      simp only [zz]
      refine alw_take (i := 16) (v := .int .i64 (P : Int)) rfl (by kernel_rfl) (by kernel_rfl) (fun _ _ _ h => h) (.inl ⟨by rfl, fun W hW => exec_load1 rfl rfl (by kernel_rfl) hW.2⟩) hS0 ?_
      simp only [zz]
      refine alw_two (i := 17) (j := 22) (by kernel_rfl) rfl rfl rfl rfl ?_ ?_
      · intro K1 HK1
        go_wp2_with fail
        refine (group_walk (HPL.out.turn HT2.out fun _ _ e => e) i d HD.out P yP2 HPE.out).mono ?_
        rintro e w3 ⟨ht, hcase⟩
        have HT3 := Lib.hid (HT2.out.trans ht fun _ _ e => e)
        have hSy : Blk w3 x 64 (walC p i v vP vH) ∧ w3.cell? ⟨gP, oP + k, none⟩ = some (.int .i64 ((P : Nat) : Int)) := ⟨(H.out.still HT3.out).blk, (ht.cell (World.block_lt_of_cell? _ _ hS0.2) fun e => e).trans hS0.2⟩
        skip
        clear ht
        rcases hcase with ⟨hoff, rfl⟩ | ⟨hon, hg, rfl⟩ | ⟨hon, st, tx, A9, c9, hg, rfl, hown⟩
        · refine HK1.out _ _ ⟨hSy, ?_⟩
          clear HK1
          try simp only [zz]
          refine alw_take (i := 18) (v := .tuple #[.agg (stA ⟨0, 0, 0, 0⟩), .slice none 0 0, .int .i64 2]) rfl (by kernel_rfl) (by kernel_rfl) (fun _ _ _ h => h) (.inl ⟨by rfl, fun W hW => exec_move rfl rfl⟩) hSy ?_
          simp only [zz]
          refine alw_take (i := 19) (v := .agg (stA ⟨0, 0, 0, 0⟩)) rfl (by kernel_rfl) (by kernel_rfl) (fun _ _ _ h => h) (.inl ⟨by rfl, fun W hW => ix_extract rfl rfl rfl⟩) hSy ?_
          simp only [zz]
          refine alw_take (i := 20) (v := .slice none 0 0) rfl (by kernel_rfl) (by kernel_rfl) (fun _ _ _ h => h) (.inl ⟨by rfl, fun W hW => ix_extract rfl rfl rfl⟩) hSy ?_
          simp only [zz]
          refine alw_take (i := 21) (v := .int .i64 2) rfl (by kernel_rfl) (by kernel_rfl) (fun _ _ _ h => h) (.inl ⟨by rfl, fun W hW => ix_extract rfl rfl rfl⟩) hSy ?_
          simp only [zz]
          refine alw_step (i := 22) (by kernel_rfl) rfl rfl ?_
          intro K1 HK1
          have hb_ := Blk.new w3 67 (stA ⟨0, 0, 0, 0⟩)
          have ht_ := (Turn.refl nowhere w3).alloc (.cells (stA ⟨0, 0, 0, 0⟩) 67)
          refine wp_run (v := .pointer (some ⟨w3.heap.size, 0, none⟩)) (w' := w3.alloc (.cells (stA ⟨0, 0, 0, 0⟩) 67)) (gx_alloc rfl (zero_st _)) ?_
          have hSx : Blk (w3.alloc (.cells (stA ⟨0, 0, 0, 0⟩) 67)) x 64 (walC p i v vP vH) ∧ (w3.alloc (.cells (stA ⟨0, 0, 0, 0⟩) 67)).cell? ⟨gP, oP + k, none⟩ = some (.int .i64 ((P : Nat) : Int)) := ⟨(H.out.still (HT3.out.trans ht_ fun _ _ e => e)).blk, (ht_.cell (World.block_lt_of_cell? _ _ hSy.2) fun e => e).trans hSy.2⟩
          refine HK1.out _ _ ⟨hSx, ?_⟩
          clear HK1
          try simp only [zz]
          obtain ⟨m, hm⟩ : ∃ m, m = w3.heap.size := ⟨_, rfl⟩
          have HMW := Lib.hid (show w.heap.size ≤ m by rw [hm]; exact HT3.out.size)
          rw [← hm] at hb_ ⊢
          have HT4 := Lib.hid (HT3.out.trans ht_ fun _ _ e => e)
          have HBm := Lib.hid hb_
          skip
          clear hm hb_ ht_
          generalize w3.alloc (.cells (stA ⟨0, 0, 0, 0⟩) 67) = w4 at *
          refine alw_step (i := 23) (by kernel_rfl) rfl rfl ?_
          intro K1 HK1
          refine wp_store_rowU 67 (.tmp 6) (.tmp 43) rfl (stA ⟨0, 0, 0, 0⟩) HBm.out rfl rfl rfl (by rw [size_st]; rfl) (stA_one _) ?_
          intro w5 hb5 ht5
          have HT5 := Lib.hid (show Turn nowhere w w5 from HT4.out.trans ht5 fun k hk e => by have e : k = m := e; have := HMW.out; omega)
          have HB5 := Lib.hid hb5
          skip
          have hSz : Blk w5 x 64 (walC p i v vP vH) ∧ w5.cell? ⟨gP, oP + k, none⟩ = some (.int .i64 ((P : Nat) : Int)) := ⟨(H.out.still HT5.out).blk, by
            obtain ⟨g1, o1, c1, e1, hc1⟩ := (H.out.still HT5.out).pl.at_ HPK.out
            rw [HVP.out] at e1
            injection e1 with e1
            injection e1 with e1
            injection e1 with e2 e3
            subst e2 e3
            exact hc1⟩
          refine HK1.out _ _ ⟨hSz, ?_⟩
          clear HK1 hb5 ht5
          try simp only [zz]
          refine alw_take (i := 24) (v := .slice none 0 0) rfl (by kernel_rfl) (by kernel_rfl) (fun _ _ _ h => h) (.inl ⟨by rfl, fun W hW => gx_assign rfl rfl⟩) hSz ?_
          simp only [zz]
          refine alw_take (i := 25) (v := .int .i64 2) rfl (by kernel_rfl) (by kernel_rfl) (fun _ _ _ h => h) (.inl ⟨by rfl, fun W hW => gx_assign rfl rfl⟩) hSz ?_
          simp only [zz]
          refine alw_done rfl ?_
          refine NoPanic.normal ?_
          clear hS0 hSy hSz hSx
          try simp only [zz]
          go_upto_region 4 with fail
          refine wp_region_lit ?_
          refine nR (.int .i64 2) (exec_move rfl rfl) ?_;simp only [zz];refine nR (.bool true) (ix_neq rfl rfl rfl (by decide)) ?_;simp only [zz]
          go_upto_region 5 with fail
          refine wp_region_lit ?_
          refine nR (.int .i64 2) (exec_move rfl rfl) ?_;simp only [zz];refine nR (.slice none 0 0) (gx_assign rfl rfl) ?_;simp only [zz];refine nR (.int .i64 2) (gx_assign rfl rfl) ?_;simp only [zz]
          go_wp2_with fail
          go_ret2
          exact ⟨HT5.out, .inr ⟨k, P, rfl, HPK.out, .inl ⟨hoff, rfl⟩⟩⟩
        · refine HK1.out _ _ ⟨hSy, ?_⟩
          clear HK1
          try simp only [zz]
          refine alw_take (i := 18) (v := .tuple #[.agg (stA ⟨0, 0, 0, 0⟩), .slice none 0 0, .int .i64 0]) rfl (by kernel_rfl) (by kernel_rfl) (fun _ _ _ h => h) (.inl ⟨by rfl, fun W hW => exec_move rfl rfl⟩) hSy ?_
          simp only [zz]
          refine alw_take (i := 19) (v := .agg (stA ⟨0, 0, 0, 0⟩)) rfl (by kernel_rfl) (by kernel_rfl) (fun _ _ _ h => h) (.inl ⟨by rfl, fun W hW => ix_extract rfl rfl rfl⟩) hSy ?_
          simp only [zz]
          refine alw_take (i := 20) (v := .slice none 0 0) rfl (by kernel_rfl) (by kernel_rfl) (fun _ _ _ h => h) (.inl ⟨by rfl, fun W hW => ix_extract rfl rfl rfl⟩) hSy ?_
          simp only [zz]
          refine alw_take (i := 21) (v := .int .i64 0) rfl (by kernel_rfl) (by kernel_rfl) (fun _ _ _ h => h) (.inl ⟨by rfl, fun W hW => ix_extract rfl rfl rfl⟩) hSy ?_
          simp only [zz]
          refine alw_step (i := 22) (by kernel_rfl) rfl rfl ?_
          intro K1 HK1
          have hb_ := Blk.new w3 67 (stA ⟨0, 0, 0, 0⟩)
          have ht_ := (Turn.refl nowhere w3).alloc (.cells (stA ⟨0, 0, 0, 0⟩) 67)
          refine wp_run (v := .pointer (some ⟨w3.heap.size, 0, none⟩)) (w' := w3.alloc (.cells (stA ⟨0, 0, 0, 0⟩) 67)) (gx_alloc rfl (zero_st _)) ?_
          have hSx : Blk (w3.alloc (.cells (stA ⟨0, 0, 0, 0⟩) 67)) x 64 (walC p i v vP vH) ∧ (w3.alloc (.cells (stA ⟨0, 0, 0, 0⟩) 67)).cell? ⟨gP, oP + k, none⟩ = some (.int .i64 ((P : Nat) : Int)) := ⟨(H.out.still (HT3.out.trans ht_ fun _ _ e => e)).blk, (ht_.cell (World.block_lt_of_cell? _ _ hSy.2) fun e => e).trans hSy.2⟩
          refine HK1.out _ _ ⟨hSx, ?_⟩
          clear HK1
          try simp only [zz]
          obtain ⟨m, hm⟩ : ∃ m, m = w3.heap.size := ⟨_, rfl⟩
          have HMW := Lib.hid (show w.heap.size ≤ m by rw [hm]; exact HT3.out.size)
          rw [← hm] at hb_ ⊢
          have HT4 := Lib.hid (HT3.out.trans ht_ fun _ _ e => e)
          have HBm := Lib.hid hb_
          skip
          clear hm hb_ ht_
          generalize w3.alloc (.cells (stA ⟨0, 0, 0, 0⟩) 67) = w4 at *
          refine alw_step (i := 23) (by kernel_rfl) rfl rfl ?_
          intro K1 HK1
          refine wp_store_rowU 67 (.tmp 6) (.tmp 43) rfl (stA ⟨0, 0, 0, 0⟩) HBm.out rfl rfl rfl (by rw [size_st]; rfl) (stA_one _) ?_
          intro w5 hb5 ht5
          have HT5 := Lib.hid (show Turn nowhere w w5 from HT4.out.trans ht5 fun k hk e => by have e : k = m := e; have := HMW.out; omega)
          have HB5 := Lib.hid hb5
          skip
          have hSz : Blk w5 x 64 (walC p i v vP vH) ∧ w5.cell? ⟨gP, oP + k, none⟩ = some (.int .i64 ((P : Nat) : Int)) := ⟨(H.out.still HT5.out).blk, by
            obtain ⟨g1, o1, c1, e1, hc1⟩ := (H.out.still HT5.out).pl.at_ HPK.out
            rw [HVP.out] at e1
            injection e1 with e1
            injection e1 with e1
            injection e1 with e2 e3
            subst e2 e3
            exact hc1⟩
          refine HK1.out _ _ ⟨hSz, ?_⟩
          clear HK1 hb5 ht5
          try simp only [zz]
          refine alw_take (i := 24) (v := .slice none 0 0) rfl (by kernel_rfl) (by kernel_rfl) (fun _ _ _ h => h) (.inl ⟨by rfl, fun W hW => gx_assign rfl rfl⟩) hSz ?_
          simp only [zz]
          refine alw_take (i := 25) (v := .int .i64 0) rfl (by kernel_rfl) (by kernel_rfl) (fun _ _ _ h => h) (.inl ⟨by rfl, fun W hW => gx_assign rfl rfl⟩) hSz ?_
          simp only [zz]
          refine alw_done rfl ?_
          refine NoPanic.normal ?_
          clear hS0 hSy hSz hSx
          try simp only [zz]
          go_upto_region 4 with fail
          refine wp_region_lit ?_
          refine nR (.int .i64 0) (exec_move rfl rfl) ?_;simp only [zz];refine nR (.bool false) (ix_neq rfl rfl rfl (by decide)) ?_;simp only [zz]
          go_upto_region 6 with fail
          refine wp_region_lit ?_
          refine nR (.agg (stA ⟨0, 0, 0, 0⟩)) (gx_loads rfl rfl (blk_range HB5.out) Tryd.underlying67 rfl (by rw [size_st]; rfl)) ?_;simp only [zz];refine nR (.slice none 0 0) (exec_move rfl rfl) ?_;simp only [zz]
          refine wpList_op (wanted_none rfl) fun K9 HK9 => ?_
          go_wp2_with fail
          refine (unpack_walk w5 ⟨0, 0, 0, 0⟩ none 0 0 [] (bs_nil _ _) (Nat.le_refl _) (by omega) (fun _ => rfl) (tab_still HTAB.out HT5.out)).mono ?_
          rintro e w6 ⟨ht, hcase⟩
          have HT6 := Lib.hid (HT5.out.trans ht fun _ _ e => e)
          obtain ⟨_, rfl⟩ | ⟨l9, g9, hu, _⟩ := hcase
          rotate_left
          · rw [unpack_nil] at hu; cases hu
          refine HK9.out _ _ ?_
          clear HK9 ht
          try simp only [zz]
          refine nR (.tuple #[.slice none 0 0, .bool false]) (exec_move rfl rfl) ?_;simp only [zz];refine nR (.slice none 0 0) (ix_extract rfl rfl rfl) ?_;simp only [zz];refine nR (.bool false) (ix_extract rfl rfl rfl) ?_;simp only [zz];refine nR (.slice none 0 0) (gx_assign rfl rfl) ?_;simp only [zz];refine nR (.bool false) (gx_assign rfl rfl) ?_;simp only [zz]
          go_upto_region 7 with fail
          first
          | (rename_i K9 hK9; have HKC := Lib.hid hK9; clear hK9)
          | (rename_i K9 hK9 K8; have HKC := Lib.hid hK9; clear hK9)
          refine wp_region_lit ?_
          refine nR (.bool false) (exec_move rfl rfl) ?_;simp only [zz];refine nR (.bool true) (ix_not (b := false) rfl rfl) ?_;simp only [zz];refine nR (.bool true) (exec_move rfl rfl) ?_;simp only [zz]
          go_wp2_with fail
          refine HKC.out _ _ ?_
          clear HKC
          go_upto_region 8 with fail
          refine wp_region_lit ?_
          refine nR (.slice none 0 0) (gx_assign rfl rfl) ?_;simp only [zz];refine nR (.int .i64 4) (gx_assign rfl rfl) ?_;simp only [zz]
          go_wp2_with fail
          go_ret2
          exact ⟨HT6.out, .inr ⟨k, P, rfl, HPK.out, .inr (.inl ⟨hon, (by unfold readV; rw [hg]), rfl⟩)⟩⟩
        · have hgs := Wl.grp_some.1 hg
          have HYC := Lib.hid (show st.cost ≤ 64 from by have := hgs.2.2.1; have := hgs.2.1; omega)
          have HGS := Lib.hid (show st.no < 4294967296 from by have := Wl.stamp_lt (dkD d) P; rw [← hgs.1] at this; exact this.2.1)
          clear hgs
          refine HK1.out _ _ ⟨hSy, ?_⟩
          clear HK1
          try simp only [zz]
          refine alw_take (i := 18) (v := .tuple #[.agg (stA st), .slice A9 (40 * st.cost) c9, .int .i64 0]) rfl (by kernel_rfl) (by kernel_rfl) (fun _ _ _ h => h) (.inl ⟨by rfl, fun W hW => exec_move rfl rfl⟩) hSy ?_
          simp only [zz]
          refine alw_take (i := 19) (v := .agg (stA st)) rfl (by kernel_rfl) (by kernel_rfl) (fun _ _ _ h => h) (.inl ⟨by rfl, fun W hW => ix_extract rfl rfl rfl⟩) hSy ?_
          simp only [zz]
          refine alw_take (i := 20) (v := .slice A9 (40 * st.cost) c9) rfl (by kernel_rfl) (by kernel_rfl) (fun _ _ _ h => h) (.inl ⟨by rfl, fun W hW => ix_extract rfl rfl rfl⟩) hSy ?_
          simp only [zz]
          refine alw_take (i := 21) (v := .int .i64 0) rfl (by kernel_rfl) (by kernel_rfl) (fun _ _ _ h => h) (.inl ⟨by rfl, fun W hW => ix_extract rfl rfl rfl⟩) hSy ?_
          simp only [zz]
          refine alw_step (i := 22) (by kernel_rfl) rfl rfl ?_
          intro K1 HK1
          have hb_ := Blk.new w3 67 (stA ⟨0, 0, 0, 0⟩)
          have ht_ := (Turn.refl nowhere w3).alloc (.cells (stA ⟨0, 0, 0, 0⟩) 67)
          refine wp_run (v := .pointer (some ⟨w3.heap.size, 0, none⟩)) (w' := w3.alloc (.cells (stA ⟨0, 0, 0, 0⟩) 67)) (gx_alloc rfl (zero_st _)) ?_
          have hSx : Blk (w3.alloc (.cells (stA ⟨0, 0, 0, 0⟩) 67)) x 64 (walC p i v vP vH) ∧ (w3.alloc (.cells (stA ⟨0, 0, 0, 0⟩) 67)).cell? ⟨gP, oP + k, none⟩ = some (.int .i64 ((P : Nat) : Int)) := ⟨(H.out.still (HT3.out.trans ht_ fun _ _ e => e)).blk, (ht_.cell (World.block_lt_of_cell? _ _ hSy.2) fun e => e).trans hSy.2⟩
          refine HK1.out _ _ ⟨hSx, ?_⟩
          clear HK1
          try simp only [zz]
          obtain ⟨m, hm⟩ : ∃ m, m = w3.heap.size := ⟨_, rfl⟩
          have HMW := Lib.hid (show w.heap.size ≤ m by rw [hm]; exact HT3.out.size)
          rw [← hm] at hb_ ⊢
          have HT4 := Lib.hid (HT3.out.trans ht_ fun _ _ e => e)
          have HBm := Lib.hid hb_
          have HOW := Lib.hid (hown.still ht_)
          clear hown
          clear hm hb_ ht_
          generalize w3.alloc (.cells (stA ⟨0, 0, 0, 0⟩) 67) = w4 at *
          refine alw_step (i := 23) (by kernel_rfl) rfl rfl ?_
          intro K1 HK1
          refine wp_store_rowU 67 (.tmp 6) (.tmp 43) rfl (stA st) HBm.out rfl rfl rfl (by rw [size_st]; rfl) (stA_one _) ?_
          intro w5 hb5 ht5
          have HT5 := Lib.hid (show Turn nowhere w w5 from HT4.out.trans ht5 fun k hk e => by have e : k = m := e; have := HMW.out; omega)
          have HB5 := Lib.hid hb5
          have HOW5 := Lib.hid (own_only HOW.out HBm.out ht5 (by decide))
          have hSz : Blk w5 x 64 (walC p i v vP vH) ∧ w5.cell? ⟨gP, oP + k, none⟩ = some (.int .i64 ((P : Nat) : Int)) := ⟨(H.out.still HT5.out).blk, by
            obtain ⟨g1, o1, c1, e1, hc1⟩ := (H.out.still HT5.out).pl.at_ HPK.out
            rw [HVP.out] at e1
            injection e1 with e1
            injection e1 with e1
            injection e1 with e2 e3
            subst e2 e3
            exact hc1⟩
          refine HK1.out _ _ ⟨hSz, ?_⟩
          clear HK1 hb5 ht5
          try simp only [zz]
          refine alw_take (i := 24) (v := .slice A9 (40 * st.cost) c9) rfl (by kernel_rfl) (by kernel_rfl) (fun _ _ _ h => h) (.inl ⟨by rfl, fun W hW => gx_assign rfl rfl⟩) hSz ?_
          simp only [zz]
          refine alw_take (i := 25) (v := .int .i64 0) rfl (by kernel_rfl) (by kernel_rfl) (fun _ _ _ h => h) (.inl ⟨by rfl, fun W hW => gx_assign rfl rfl⟩) hSz ?_
          simp only [zz]
          refine alw_done rfl ?_
          refine NoPanic.normal ?_
          clear hS0 hSy hSz hSx
          try simp only [zz]
          go_upto_region 4 with fail
          refine wp_region_lit ?_
          refine nR (.int .i64 0) (exec_move rfl rfl) ?_;simp only [zz];refine nR (.bool false) (ix_neq rfl rfl rfl (by decide)) ?_;simp only [zz]
          go_upto_region 6 with fail
          refine wp_region_lit ?_
          refine nR (.agg (stA st)) (gx_loads rfl rfl (blk_range HB5.out) Tryd.underlying67 rfl (by rw [size_st]; rfl)) ?_;simp only [zz];refine nR (.slice A9 (40 * st.cost) c9) (exec_move rfl rfl) ?_;simp only [zz]
          refine wpList_op (wanted_none rfl) fun K9 HK9 => ?_
          go_wp2_with fail
          refine (unpack_walk w5 st A9 (40 * st.cost) c9 tx HOW5.out.bs.1 HOW5.out.bs.2.1 (by have := HYC.out; omega) HOW5.out.bs.2.2 (tab_still HTAB.out HT5.out)).mono ?_
          rintro e w6 ⟨ht, hcase⟩
          have HT6 := Lib.hid (HT5.out.trans ht fun _ _ e => e)
          have HB6 := Lib.hid (HB5.out.turn ht fun e => e)
          clear ht
          rcases hcase with ⟨hu, rfl⟩ | ⟨l9, g9, hu, rfl, hls, hg9, hf9⟩
          · refine HK9.out _ _ ?_
            clear HK9
            try simp only [zz]
            refine nR (.tuple #[.slice none 0 0, .bool false]) (exec_move rfl rfl) ?_;simp only [zz];refine nR (.slice none 0 0) (ix_extract rfl rfl rfl) ?_;simp only [zz];refine nR (.bool false) (ix_extract rfl rfl rfl) ?_;simp only [zz];refine nR (.slice none 0 0) (gx_assign rfl rfl) ?_;simp only [zz];refine nR (.bool false) (gx_assign rfl rfl) ?_;simp only [zz]
            go_upto_region 7 with fail
            first
            | (rename_i K9 hK9; have HKC := Lib.hid hK9; clear hK9)
            | (rename_i K9 hK9 K8; have HKC := Lib.hid hK9; clear hK9)
            refine wp_region_lit ?_
            refine nR (.bool false) (exec_move rfl rfl) ?_;simp only [zz];refine nR (.bool true) (ix_not (b := false) rfl rfl) ?_;simp only [zz];refine nR (.bool true) (exec_move rfl rfl) ?_;simp only [zz]
            go_wp2_with fail
            refine HKC.out _ _ ?_
            clear HKC
            go_upto_region 8 with fail
            refine wp_region_lit ?_
            refine nR (.slice none 0 0) (gx_assign rfl rfl) ?_;simp only [zz];refine nR (.int .i64 4) (gx_assign rfl rfl) ?_;simp only [zz]
            go_wp2_with fail
            go_ret2
            exact ⟨HT6.out, .inr ⟨k, P, rfl, HPK.out, .inr (.inl ⟨hon, (by unfold readV; rw [hg]; simp only [hu]), rfl⟩)⟩⟩
          · refine HK9.out _ _ ?_
            clear HK9
            try simp only [zz]
            by_cases hnn : st.no = v.first + k
            · refine wpList_run (v := .tuple #[.slice (some ⟨g9, 0, none⟩) l9.length l9.length, .bool true]) (wanted_none rfl) (exec_move rfl rfl) ?_
              simp only [zz];refine nR (.slice (some ⟨g9, 0, none⟩) l9.length l9.length) (ix_extract rfl rfl rfl) ?_;simp only [zz];refine nR (.bool true) (ix_extract rfl rfl rfl) ?_;simp only [zz];refine nR (.slice (some ⟨g9, 0, none⟩) l9.length l9.length) (gx_assign rfl rfl) ?_;simp only [zz];refine nR (.bool true) (gx_assign rfl rfl) ?_;simp only [zz]
              go_upto_region 7 with fail
              refine wp_region_lit ?_
              refine nR (.bool true) (exec_move rfl rfl) ?_;simp only [zz];refine nR (.bool false) (ix_not (b := true) rfl rfl) ?_;simp only [zz];refine nR (.bool false) (exec_move rfl rfl) ?_;simp only [zz];refine wpList_run (v := .pointer (some ⟨m, 1, none⟩)) rfl (exec_field (off := 0) (d := 1) rfl rfl (by kernel_rfl)) ?_;simp only [zz];refine wpList_run (v := .int .i64 (st.no : Int)) rfl (exec_load1 rfl rfl (by kernel_rfl) (HB6.out.cell 1)) ?_;simp only [zz];refine wpList_run (v := .int .i64 ((v.first + k : Nat) : Int)) rfl (exec_move rfl rfl) ?_;simp only [zz];refine wpList_run (v := .bool false) rfl (ix_neq rfl rfl rfl (decide_eq_false (by omega))) ?_;simp only [zz];refine nR (.bool false) (ix_pickF rfl rfl rfl) ?_;simp only [zz]
              go_upto_region 9 with fail
              refine wp_region_lit ?_
              refine nR (.slice (some ⟨g9, 0, none⟩) l9.length l9.length) (exec_move rfl rfl) ?_;simp only [zz];refine nR (.slice (some ⟨g9, 0, none⟩) l9.length l9.length) (gx_assign rfl rfl) ?_;simp only [zz];refine nR (.int .i64 0) (gx_assign rfl rfl) ?_;simp only [zz]
              go_wp2_with fail
              go_ret2
              exact ⟨HT6.out, .inr ⟨k, P, rfl, HPK.out, .inr (.inr ⟨hon, l9, g9, (by unfold readV; rw [hg]; simp only [hu]; rw [if_pos hnn]), rfl, hls, Nat.le_trans HT5.out.size hg9, by
                obtain ⟨b0, o0, e2, hF⟩ := hf9
                have hlen : ¬ tx.length < 40 := fun h => by rw [u_short h] at hu; cases hu
                obtain ⟨gg, cc, e, hB, _⟩ := HOW5.out.head (by omega)
                injection e with e3 e4 e5
                rw [e2] at e3
                injection e3 with e6
                injection e6 with e7
                exact ⟨b0, by rw [e7]; first | exact hB | exact Nat.le_trans HT2.out.size hB | exact Nat.le_trans HT3.out.size hB, hF⟩⟩)⟩⟩
            · refine wpList_run (v := .tuple #[.slice (some ⟨g9, 0, none⟩) l9.length l9.length, .bool true]) (wanted_none rfl) (exec_move rfl rfl) ?_
              simp only [zz];refine nR (.slice (some ⟨g9, 0, none⟩) l9.length l9.length) (ix_extract rfl rfl rfl) ?_;simp only [zz];refine nR (.bool true) (ix_extract rfl rfl rfl) ?_;simp only [zz];refine nR (.slice (some ⟨g9, 0, none⟩) l9.length l9.length) (gx_assign rfl rfl) ?_;simp only [zz];refine nR (.bool true) (gx_assign rfl rfl) ?_;simp only [zz]
              go_upto_region 7 with fail
              refine wp_region_lit ?_
              refine nR (.bool true) (exec_move rfl rfl) ?_;simp only [zz];refine nR (.bool false) (ix_not (b := true) rfl rfl) ?_;simp only [zz];refine nR (.bool false) (exec_move rfl rfl) ?_;simp only [zz];refine wpList_run (v := .pointer (some ⟨m, 1, none⟩)) rfl (exec_field (off := 0) (d := 1) rfl rfl (by kernel_rfl)) ?_;simp only [zz];refine wpList_run (v := .int .i64 (st.no : Int)) rfl (exec_load1 rfl rfl (by kernel_rfl) (HB6.out.cell 1)) ?_;simp only [zz];refine wpList_run (v := .int .i64 ((v.first + k : Nat) : Int)) rfl (exec_move rfl rfl) ?_;simp only [zz];refine wpList_run (v := .bool true) rfl (ix_neq rfl rfl rfl (decide_eq_true (by omega))) ?_;simp only [zz];refine nR (.bool true) (ix_pickF rfl rfl rfl) ?_;simp only [zz]
              go_upto_region 8 with fail
              refine wp_region_lit ?_
              refine nR (.slice none 0 0) (gx_assign rfl rfl) ?_;simp only [zz];refine nR (.int .i64 4) (gx_assign rfl rfl) ?_;simp only [zz]
              go_wp2_with fail
              go_ret2
              exact ⟨HT6.out, .inr ⟨k, P, rfl, HPK.out, .inr (.inl ⟨hon, (by unfold readV; rw [hg]; simp only [hu]; rw [if_neg hnn]), rfl⟩)⟩⟩
      · intro K1 HK1
        have hb_ := Blk.new w2 67 (stA ⟨0, 0, 0, 0⟩)
        have ht_ := (Turn.refl nowhere w2).alloc (.cells (stA ⟨0, 0, 0, 0⟩) 67)
        refine wp_run (v := .pointer (some ⟨w2.heap.size, 0, none⟩)) (w' := w2.alloc (.cells (stA ⟨0, 0, 0, 0⟩) 67)) (gx_alloc rfl (zero_st _)) ?_
        have hSx : Blk (w2.alloc (.cells (stA ⟨0, 0, 0, 0⟩) 67)) x 64 (walC p i v vP vH) ∧ (w2.alloc (.cells (stA ⟨0, 0, 0, 0⟩) 67)).cell? ⟨gP, oP + k, none⟩ = some (.int .i64 ((P : Nat) : Int)) := ⟨(H.out.still (HT2.out.trans ht_ fun _ _ e => e)).blk, (ht_.cell (World.block_lt_of_cell? _ _ hS0.2) fun e => e).trans hS0.2⟩
        refine HK1.out _ _ ⟨hSx, ?_⟩
        clear HK1
        try simp only [zz]
        obtain ⟨m, hm⟩ : ∃ m, m = w2.heap.size := ⟨_, rfl⟩
        have HMW := Lib.hid (show w.heap.size ≤ m by rw [hm]; exact HT2.out.size)
        rw [← hm] at hb_ ⊢
        have HT3 := Lib.hid (HT2.out.trans ht_ fun _ _ e => e)
        have HBm := Lib.hid hb_
        skip
        clear hm hb_ ht_
        generalize w2.alloc (.cells (stA ⟨0, 0, 0, 0⟩) 67) = w3 at *
        refine alw_step (i := 17) (by kernel_rfl) rfl rfl ?_
        intro K1 HK1
        go_wp2_with fail
        refine (group_walk (HPL.out.turn HT3.out fun _ _ e => e) i d HD.out P yP2 HPE.out).mono ?_
        rintro e w4 ⟨ht, hcase⟩
        have HT4 := Lib.hid (HT3.out.trans ht fun _ _ e => e)
        have hSy : Blk w4 x 64 (walC p i v vP vH) ∧ w4.cell? ⟨gP, oP + k, none⟩ = some (.int .i64 ((P : Nat) : Int)) := ⟨(H.out.still HT4.out).blk, (ht.cell (World.block_lt_of_cell? _ _ hSx.2) fun e => e).trans hSx.2⟩
        have HBm4 := Lib.hid (HBm.out.turn ht fun e => e)
        clear ht
        rcases hcase with ⟨hoff, rfl⟩ | ⟨hon, hg, rfl⟩ | ⟨hon, st, tx, A9, c9, hg, rfl, hown⟩
        · refine HK1.out _ _ ⟨hSy, ?_⟩
          clear HK1
          try simp only [zz]
          refine alw_take (i := 18) (v := .tuple #[.agg (stA ⟨0, 0, 0, 0⟩), .slice none 0 0, .int .i64 2]) rfl (by kernel_rfl) (by kernel_rfl) (fun _ _ _ h => h) (.inl ⟨by rfl, fun W hW => exec_move rfl rfl⟩) hSy ?_
          simp only [zz]
          refine alw_take (i := 19) (v := .agg (stA ⟨0, 0, 0, 0⟩)) rfl (by kernel_rfl) (by kernel_rfl) (fun _ _ _ h => h) (.inl ⟨by rfl, fun W hW => ix_extract rfl rfl rfl⟩) hSy ?_
          simp only [zz]
          refine alw_take (i := 20) (v := .slice none 0 0) rfl (by kernel_rfl) (by kernel_rfl) (fun _ _ _ h => h) (.inl ⟨by rfl, fun W hW => ix_extract rfl rfl rfl⟩) hSy ?_
          simp only [zz]
          refine alw_take (i := 21) (v := .int .i64 2) rfl (by kernel_rfl) (by kernel_rfl) (fun _ _ _ h => h) (.inl ⟨by rfl, fun W hW => ix_extract rfl rfl rfl⟩) hSy ?_
          simp only [zz]
          refine alw_step (i := 23) (by kernel_rfl) rfl rfl ?_
          intro K1 HK1
          refine wp_store_rowU 67 (.tmp 6) (.tmp 43) rfl (stA ⟨0, 0, 0, 0⟩) HBm4.out rfl rfl rfl (by rw [size_st]; rfl) (stA_one _) ?_
          intro w5 hb5 ht5
          have HT5 := Lib.hid (show Turn nowhere w w5 from HT4.out.trans ht5 fun k hk e => by have e : k = m := e; have := HMW.out; omega)
          have HB5 := Lib.hid hb5
          skip
          have hSz : Blk w5 x 64 (walC p i v vP vH) ∧ w5.cell? ⟨gP, oP + k, none⟩ = some (.int .i64 ((P : Nat) : Int)) := ⟨(H.out.still HT5.out).blk, by
            obtain ⟨g1, o1, c1, e1, hc1⟩ := (H.out.still HT5.out).pl.at_ HPK.out
            rw [HVP.out] at e1
            injection e1 with e1
            injection e1 with e1
            injection e1 with e2 e3
            subst e2 e3
            exact hc1⟩
          refine HK1.out _ _ ⟨hSz, ?_⟩
          clear HK1 hb5 ht5
          try simp only [zz]
          refine alw_take (i := 24) (v := .slice none 0 0) rfl (by kernel_rfl) (by kernel_rfl) (fun _ _ _ h => h) (.inl ⟨by rfl, fun W hW => gx_assign rfl rfl⟩) hSz ?_
          simp only [zz]
          refine alw_take (i := 25) (v := .int .i64 2) rfl (by kernel_rfl) (by kernel_rfl) (fun _ _ _ h => h) (.inl ⟨by rfl, fun W hW => gx_assign rfl rfl⟩) hSz ?_
          simp only [zz]
          refine alw_done rfl ?_
          refine NoPanic.normal ?_
          clear hS0 hSy hSz hSx
          try simp only [zz]
          go_upto_region 4 with fail
          refine wp_region_lit ?_
          refine nR (.int .i64 2) (exec_move rfl rfl) ?_;simp only [zz];refine nR (.bool true) (ix_neq rfl rfl rfl (by decide)) ?_;simp only [zz]
          go_upto_region 5 with fail
          refine wp_region_lit ?_
          refine nR (.int .i64 2) (exec_move rfl rfl) ?_;simp only [zz];refine nR (.slice none 0 0) (gx_assign rfl rfl) ?_;simp only [zz];refine nR (.int .i64 2) (gx_assign rfl rfl) ?_;simp only [zz]
          go_wp2_with fail
          go_ret2
          exact ⟨HT5.out, .inr ⟨k, P, rfl, HPK.out, .inl ⟨hoff, rfl⟩⟩⟩
        · refine HK1.out _ _ ⟨hSy, ?_⟩
          clear HK1
          try simp only [zz]
          refine alw_take (i := 18) (v := .tuple #[.agg (stA ⟨0, 0, 0, 0⟩), .slice none 0 0, .int .i64 0]) rfl (by kernel_rfl) (by kernel_rfl) (fun _ _ _ h => h) (.inl ⟨by rfl, fun W hW => exec_move rfl rfl⟩) hSy ?_
          simp only [zz]
          refine alw_take (i := 19) (v := .agg (stA ⟨0, 0, 0, 0⟩)) rfl (by kernel_rfl) (by kernel_rfl) (fun _ _ _ h => h) (.inl ⟨by rfl, fun W hW => ix_extract rfl rfl rfl⟩) hSy ?_
          simp only [zz]
          refine alw_take (i := 20) (v := .slice none 0 0) rfl (by kernel_rfl) (by kernel_rfl) (fun _ _ _ h => h) (.inl ⟨by rfl, fun W hW => ix_extract rfl rfl rfl⟩) hSy ?_
          simp only [zz]
          refine alw_take (i := 21) (v := .int .i64 0) rfl (by kernel_rfl) (by kernel_rfl) (fun _ _ _ h => h) (.inl ⟨by rfl, fun W hW => ix_extract rfl rfl rfl⟩) hSy ?_
          simp only [zz]
          refine alw_step (i := 23) (by kernel_rfl) rfl rfl ?_
          intro K1 HK1
          refine wp_store_rowU 67 (.tmp 6) (.tmp 43) rfl (stA ⟨0, 0, 0, 0⟩) HBm4.out rfl rfl rfl (by rw [size_st]; rfl) (stA_one _) ?_
          intro w5 hb5 ht5
          have HT5 := Lib.hid (show Turn nowhere w w5 from HT4.out.trans ht5 fun k hk e => by have e : k = m := e; have := HMW.out; omega)
          have HB5 := Lib.hid hb5
          skip
          have hSz : Blk w5 x 64 (walC p i v vP vH) ∧ w5.cell? ⟨gP, oP + k, none⟩ = some (.int .i64 ((P : Nat) : Int)) := ⟨(H.out.still HT5.out).blk, by
            obtain ⟨g1, o1, c1, e1, hc1⟩ := (H.out.still HT5.out).pl.at_ HPK.out
            rw [HVP.out] at e1
            injection e1 with e1
            injection e1 with e1
            injection e1 with e2 e3
            subst e2 e3
            exact hc1⟩
          refine HK1.out _ _ ⟨hSz, ?_⟩
          clear HK1 hb5 ht5
          try simp only [zz]
          refine alw_take (i := 24) (v := .slice none 0 0) rfl (by kernel_rfl) (by kernel_rfl) (fun _ _ _ h => h) (.inl ⟨by rfl, fun W hW => gx_assign rfl rfl⟩) hSz ?_
          simp only [zz]
          refine alw_take (i := 25) (v := .int .i64 0) rfl (by kernel_rfl) (by kernel_rfl) (fun _ _ _ h => h) (.inl ⟨by rfl, fun W hW => gx_assign rfl rfl⟩) hSz ?_
          simp only [zz]
          refine alw_done rfl ?_
          refine NoPanic.normal ?_
          clear hS0 hSy hSz hSx
          try simp only [zz]
          go_upto_region 4 with fail
          refine wp_region_lit ?_
          refine nR (.int .i64 0) (exec_move rfl rfl) ?_;simp only [zz];refine nR (.bool false) (ix_neq rfl rfl rfl (by decide)) ?_;simp only [zz]
          go_upto_region 6 with fail
          refine wp_region_lit ?_
          refine nR (.agg (stA ⟨0, 0, 0, 0⟩)) (gx_loads rfl rfl (blk_range HB5.out) Tryd.underlying67 rfl (by rw [size_st]; rfl)) ?_;simp only [zz];refine nR (.slice none 0 0) (exec_move rfl rfl) ?_;simp only [zz]
          refine wpList_op (wanted_none rfl) fun K9 HK9 => ?_
          go_wp2_with fail
          refine (unpack_walk w5 ⟨0, 0, 0, 0⟩ none 0 0 [] (bs_nil _ _) (Nat.le_refl _) (by omega) (fun _ => rfl) (tab_still HTAB.out HT5.out)).mono ?_
          rintro e w6 ⟨ht, hcase⟩
          have HT6 := Lib.hid (HT5.out.trans ht fun _ _ e => e)
          obtain ⟨_, rfl⟩ | ⟨l9, g9, hu, _⟩ := hcase
          rotate_left
          · rw [unpack_nil] at hu; cases hu
          refine HK9.out _ _ ?_
          clear HK9 ht
          try simp only [zz]
          refine nR (.tuple #[.slice none 0 0, .bool false]) (exec_move rfl rfl) ?_;simp only [zz];refine nR (.slice none 0 0) (ix_extract rfl rfl rfl) ?_;simp only [zz];refine nR (.bool false) (ix_extract rfl rfl rfl) ?_;simp only [zz];refine nR (.slice none 0 0) (gx_assign rfl rfl) ?_;simp only [zz];refine nR (.bool false) (gx_assign rfl rfl) ?_;simp only [zz]
          go_upto_region 7 with fail
          first
          | (rename_i K9 hK9; have HKC := Lib.hid hK9; clear hK9)
          | (rename_i K9 hK9 K8; have HKC := Lib.hid hK9; clear hK9)
          refine wp_region_lit ?_
          refine nR (.bool false) (exec_move rfl rfl) ?_;simp only [zz];refine nR (.bool true) (ix_not (b := false) rfl rfl) ?_;simp only [zz];refine nR (.bool true) (exec_move rfl rfl) ?_;simp only [zz]
          go_wp2_with fail
          refine HKC.out _ _ ?_
          clear HKC
          go_upto_region 8 with fail
          refine wp_region_lit ?_
          refine nR (.slice none 0 0) (gx_assign rfl rfl) ?_;simp only [zz];refine nR (.int .i64 4) (gx_assign rfl rfl) ?_;simp only [zz]
          go_wp2_with fail
          go_ret2
          exact ⟨HT6.out, .inr ⟨k, P, rfl, HPK.out, .inr (.inl ⟨hon, (by unfold readV; rw [hg]), rfl⟩)⟩⟩
        · have hgs := Wl.grp_some.1 hg
          have HYC := Lib.hid (show st.cost ≤ 64 from by have := hgs.2.2.1; have := hgs.2.1; omega)
          have HGS := Lib.hid (show st.no < 4294967296 from by have := Wl.stamp_lt (dkD d) P; rw [← hgs.1] at this; exact this.2.1)
          clear hgs
          refine HK1.out _ _ ⟨hSy, ?_⟩
          clear HK1
          try simp only [zz]
          refine alw_take (i := 18) (v := .tuple #[.agg (stA st), .slice A9 (40 * st.cost) c9, .int .i64 0]) rfl (by kernel_rfl) (by kernel_rfl) (fun _ _ _ h => h) (.inl ⟨by rfl, fun W hW => exec_move rfl rfl⟩) hSy ?_
          simp only [zz]
          refine alw_take (i := 19) (v := .agg (stA st)) rfl (by kernel_rfl) (by kernel_rfl) (fun _ _ _ h => h) (.inl ⟨by rfl, fun W hW => ix_extract rfl rfl rfl⟩) hSy ?_
          simp only [zz]
          refine alw_take (i := 20) (v := .slice A9 (40 * st.cost) c9) rfl (by kernel_rfl) (by kernel_rfl) (fun _ _ _ h => h) (.inl ⟨by rfl, fun W hW => ix_extract rfl rfl rfl⟩) hSy ?_
          simp only [zz]
          refine alw_take (i := 21) (v := .int .i64 0) rfl (by kernel_rfl) (by kernel_rfl) (fun _ _ _ h => h) (.inl ⟨by rfl, fun W hW => ix_extract rfl rfl rfl⟩) hSy ?_
          simp only [zz]
          have HOW := Lib.hid hown
          clear hown
          refine alw_step (i := 23) (by kernel_rfl) rfl rfl ?_
          intro K1 HK1
          refine wp_store_rowU 67 (.tmp 6) (.tmp 43) rfl (stA st) HBm4.out rfl rfl rfl (by rw [size_st]; rfl) (stA_one _) ?_
          intro w5 hb5 ht5
          have HT5 := Lib.hid (show Turn nowhere w w5 from HT4.out.trans ht5 fun k hk e => by have e : k = m := e; have := HMW.out; omega)
          have HB5 := Lib.hid hb5
          have HOW5 := Lib.hid (own_only HOW.out HBm4.out ht5 (by decide))
          have hSz : Blk w5 x 64 (walC p i v vP vH) ∧ w5.cell? ⟨gP, oP + k, none⟩ = some (.int .i64 ((P : Nat) : Int)) := ⟨(H.out.still HT5.out).blk, by
            obtain ⟨g1, o1, c1, e1, hc1⟩ := (H.out.still HT5.out).pl.at_ HPK.out
            rw [HVP.out] at e1
            injection e1 with e1
            injection e1 with e1
            injection e1 with e2 e3
            subst e2 e3
            exact hc1⟩
          refine HK1.out _ _ ⟨hSz, ?_⟩
          clear HK1 hb5 ht5
          try simp only [zz]
          refine alw_take (i := 24) (v := .slice A9 (40 * st.cost) c9) rfl (by kernel_rfl) (by kernel_rfl) (fun _ _ _ h => h) (.inl ⟨by rfl, fun W hW => gx_assign rfl rfl⟩) hSz ?_
          simp only [zz]
          refine alw_take (i := 25) (v := .int .i64 0) rfl (by kernel_rfl) (by kernel_rfl) (fun _ _ _ h => h) (.inl ⟨by rfl, fun W hW => gx_assign rfl rfl⟩) hSz ?_
          simp only [zz]
          refine alw_done rfl ?_
          refine NoPanic.normal ?_
          clear hS0 hSy hSz hSx
          try simp only [zz]
          go_upto_region 4 with fail
          refine wp_region_lit ?_
          refine nR (.int .i64 0) (exec_move rfl rfl) ?_;simp only [zz];refine nR (.bool false) (ix_neq rfl rfl rfl (by decide)) ?_;simp only [zz]
          go_upto_region 6 with fail
          refine wp_region_lit ?_
          refine nR (.agg (stA st)) (gx_loads rfl rfl (blk_range HB5.out) Tryd.underlying67 rfl (by rw [size_st]; rfl)) ?_;simp only [zz];refine nR (.slice A9 (40 * st.cost) c9) (exec_move rfl rfl) ?_;simp only [zz]
          refine wpList_op (wanted_none rfl) fun K9 HK9 => ?_
          go_wp2_with fail
          refine (unpack_walk w5 st A9 (40 * st.cost) c9 tx HOW5.out.bs.1 HOW5.out.bs.2.1 (by have := HYC.out; omega) HOW5.out.bs.2.2 (tab_still HTAB.out HT5.out)).mono ?_
          rintro e w6 ⟨ht, hcase⟩
          have HT6 := Lib.hid (HT5.out.trans ht fun _ _ e => e)
          have HB6 := Lib.hid (HB5.out.turn ht fun e => e)
          clear ht
          rcases hcase with ⟨hu, rfl⟩ | ⟨l9, g9, hu, rfl, hls, hg9, hf9⟩
          · refine HK9.out _ _ ?_
            clear HK9
            try simp only [zz]
            refine nR (.tuple #[.slice none 0 0, .bool false]) (exec_move rfl rfl) ?_;simp only [zz];refine nR (.slice none 0 0) (ix_extract rfl rfl rfl) ?_;simp only [zz];refine nR (.bool false) (ix_extract rfl rfl rfl) ?_;simp only [zz];refine nR (.slice none 0 0) (gx_assign rfl rfl) ?_;simp only [zz];refine nR (.bool false) (gx_assign rfl rfl) ?_;simp only [zz]
            go_upto_region 7 with fail
            first
            | (rename_i K9 hK9; have HKC := Lib.hid hK9; clear hK9)
            | (rename_i K9 hK9 K8; have HKC := Lib.hid hK9; clear hK9)
            refine wp_region_lit ?_
            refine nR (.bool false) (exec_move rfl rfl) ?_;simp only [zz];refine nR (.bool true) (ix_not (b := false) rfl rfl) ?_;simp only [zz];refine nR (.bool true) (exec_move rfl rfl) ?_;simp only [zz]
            go_wp2_with fail
            refine HKC.out _ _ ?_
            clear HKC
            go_upto_region 8 with fail
            refine wp_region_lit ?_
            refine nR (.slice none 0 0) (gx_assign rfl rfl) ?_;simp only [zz];refine nR (.int .i64 4) (gx_assign rfl rfl) ?_;simp only [zz]
            go_wp2_with fail
            go_ret2
            exact ⟨HT6.out, .inr ⟨k, P, rfl, HPK.out, .inr (.inl ⟨hon, (by unfold readV; rw [hg]; simp only [hu]), rfl⟩)⟩⟩
          · refine HK9.out _ _ ?_
            clear HK9
            try simp only [zz]
            by_cases hnn : st.no = v.first + k
            · refine wpList_run (v := .tuple #[.slice (some ⟨g9, 0, none⟩) l9.length l9.length, .bool true]) (wanted_none rfl) (exec_move rfl rfl) ?_
              simp only [zz];refine nR (.slice (some ⟨g9, 0, none⟩) l9.length l9.length) (ix_extract rfl rfl rfl) ?_;simp only [zz];refine nR (.bool true) (ix_extract rfl rfl rfl) ?_;simp only [zz];refine nR (.slice (some ⟨g9, 0, none⟩) l9.length l9.length) (gx_assign rfl rfl) ?_;simp only [zz];refine nR (.bool true) (gx_assign rfl rfl) ?_;simp only [zz]
              go_upto_region 7 with fail
              refine wp_region_lit ?_
              refine nR (.bool true) (exec_move rfl rfl) ?_;simp only [zz];refine nR (.bool false) (ix_not (b := true) rfl rfl) ?_;simp only [zz];refine nR (.bool false) (exec_move rfl rfl) ?_;simp only [zz];refine wpList_run (v := .pointer (some ⟨m, 1, none⟩)) rfl (exec_field (off := 0) (d := 1) rfl rfl (by kernel_rfl)) ?_;simp only [zz];refine wpList_run (v := .int .i64 (st.no : Int)) rfl (exec_load1 rfl rfl (by kernel_rfl) (HB6.out.cell 1)) ?_;simp only [zz];refine wpList_run (v := .int .i64 ((v.first + k : Nat) : Int)) rfl (exec_move rfl rfl) ?_;simp only [zz];refine wpList_run (v := .bool false) rfl (ix_neq rfl rfl rfl (decide_eq_false (by omega))) ?_;simp only [zz];refine nR (.bool false) (ix_pickF rfl rfl rfl) ?_;simp only [zz]
              go_upto_region 9 with fail
              refine wp_region_lit ?_
              refine nR (.slice (some ⟨g9, 0, none⟩) l9.length l9.length) (exec_move rfl rfl) ?_;simp only [zz];refine nR (.slice (some ⟨g9, 0, none⟩) l9.length l9.length) (gx_assign rfl rfl) ?_;simp only [zz];refine nR (.int .i64 0) (gx_assign rfl rfl) ?_;simp only [zz]
              go_wp2_with fail
              go_ret2
              exact ⟨HT6.out, .inr ⟨k, P, rfl, HPK.out, .inr (.inr ⟨hon, l9, g9, (by unfold readV; rw [hg]; simp only [hu]; rw [if_pos hnn]), rfl, hls, Nat.le_trans HT5.out.size hg9, by
                obtain ⟨b0, o0, e2, hF⟩ := hf9
                have hlen : ¬ tx.length < 40 := fun h => by rw [u_short h] at hu; cases hu
                obtain ⟨gg, cc, e, hB, _⟩ := HOW5.out.head (by omega)
                injection e with e3 e4 e5
                rw [e2] at e3
                injection e3 with e6
                injection e6 with e7
                exact ⟨b0, by rw [e7]; first | exact hB | exact Nat.le_trans HT2.out.size hB | exact Nat.le_trans HT3.out.size hB, hF⟩⟩)⟩⟩
            · refine wpList_run (v := .tuple #[.slice (some ⟨g9, 0, none⟩) l9.length l9.length, .bool true]) (wanted_none rfl) (exec_move rfl rfl) ?_
              simp only [zz];refine nR (.slice (some ⟨g9, 0, none⟩) l9.length l9.length) (ix_extract rfl rfl rfl) ?_;simp only [zz];refine nR (.bool true) (ix_extract rfl rfl rfl) ?_;simp only [zz];refine nR (.slice (some ⟨g9, 0, none⟩) l9.length l9.length) (gx_assign rfl rfl) ?_;simp only [zz];refine nR (.bool true) (gx_assign rfl rfl) ?_;simp only [zz]
              go_upto_region 7 with fail
              refine wp_region_lit ?_
              refine nR (.bool true) (exec_move rfl rfl) ?_;simp only [zz];refine nR (.bool false) (ix_not (b := true) rfl rfl) ?_;simp only [zz];refine nR (.bool false) (exec_move rfl rfl) ?_;simp only [zz];refine wpList_run (v := .pointer (some ⟨m, 1, none⟩)) rfl (exec_field (off := 0) (d := 1) rfl rfl (by kernel_rfl)) ?_;simp only [zz];refine wpList_run (v := .int .i64 (st.no : Int)) rfl (exec_load1 rfl rfl (by kernel_rfl) (HB6.out.cell 1)) ?_;simp only [zz];refine wpList_run (v := .int .i64 ((v.first + k : Nat) : Int)) rfl (exec_move rfl rfl) ?_;simp only [zz];refine wpList_run (v := .bool true) rfl (ix_neq rfl rfl rfl (decide_eq_true (by omega))) ?_;simp only [zz];refine nR (.bool true) (ix_pickF rfl rfl rfl) ?_;simp only [zz]
              go_upto_region 8 with fail
              refine wp_region_lit ?_
              refine nR (.slice none 0 0) (gx_assign rfl rfl) ?_;simp only [zz];refine nR (.int .i64 4) (gx_assign rfl rfl) ?_;simp only [zz]
              go_wp2_with fail
              go_ret2
              exact ⟨HT6.out, .inr ⟨k, P, rfl, HPK.out, .inr (.inl ⟨hon, (by unfold readV; rw [hg]; simp only [hu]; rw [if_neg hnn]), rfl⟩)⟩⟩
end Go.Proofs.YtelipeoilcepbaaDoor
