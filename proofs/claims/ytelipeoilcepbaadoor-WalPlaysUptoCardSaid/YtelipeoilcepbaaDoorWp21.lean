/-
  Texts in one file: WlX. Conditions: the tables and the errors read as the program's text lays them.
-/
import Derived.Test.YtelipeoilcepbaaDoorWp0
import Derived.Test.YtelipeoilcepbaaDoorWp20
namespace Go.Proofs.YtelipeoilcepbaaDoor
open Go.RowKit
open Wl (B8)
set_option linter.unusedVariables false
set_option linter.unusedSimpArgs false
set_option maxRecDepth 20000
def Row1 (w : World) (v : Value) (ns : List Nat) : Prop :=
  ∃ A c, v = .slice A ns.length c ∧ ns.length ≤ c ∧ (c ≤ maxLen ∧ ns.length ≤ 1099511627776) ∧ ((A = none ∧ c = 0) ∨ ∃ g off cur, A = some ⟨g, off, none⟩ ∧ Blk w g 3 cur ∧ off + c ≤ cur.size ∧ ∀ j n, ns[j]? = some n → cur[off + j]? = some (.int .i64 ((n : Nat) : Int)))
theorem Row1.turn {w w' : World} {v : Value} {ns : List Nat} {F : Nat → Prop} (h : Row1 w v ns) (ht : Turn F w w') (hF : ∀ b, v.ownBlock = some b → ¬ F b) : Row1 w' v ns := by
  obtain ⟨A, c, rfl, h1, h2, h3⟩ := h
  refine ⟨A, c, rfl, h1, h2, h3.imp id ?_⟩
  rintro ⟨g, off, cur, rfl, hb, h4⟩
  exact ⟨g, off, cur, rfl, hb.turn ht (hF g rfl), h4⟩
theorem Row1.lt {w : World} {v : Value} {ns : List Nat} (h : Row1 w v ns) {b : Nat} (hb : v.ownBlock = some b) : b < w.heap.size ∧ ∃ cur, Blk w b 3 cur := by
  obtain ⟨A, c, rfl, h1, h2, h3⟩ := h
  rcases h3 with ⟨rfl, _⟩ | ⟨g, off, cur, rfl, hg, _⟩
  · cases hb
  · obtain rfl : g = b := Option.some.inj hb
    exact ⟨hg.lt, cur, hg⟩
theorem Row1.at_ {w : World} {v : Value} {ns : List Nat} (h : Row1 w v ns) {i n : Nat} (hi : ns[i]? = some n) : ∃ g off c, v = .slice (some ⟨g, off, none⟩) ns.length c ∧ w.cell? ⟨g, off + i, none⟩ = some (.int .i64 ((n : Nat) : Int)) := by
  obtain ⟨A, c, rfl, h1, h2, h3⟩ := h
  have hlt := (List.getElem?_eq_some_iff.1 hi).1
  rcases h3 with ⟨rfl, e⟩ | ⟨g, off, cur, rfl, hg, _, h4⟩
  · omega
  · exact ⟨g, off, c, rfl, by rw [hg.cell]; exact h4 i n hi⟩
structure WalV where
  slot : Nat
  age : Nat
  first : Nat
  places : List Nat
  held : List Nat
  seg : Nat
  used : Nat
def walC (p i : Nat) (v : WalV) (vP vH : Value) : Array Value := #[.pointer (some ⟨p, 0, none⟩), .int .i64 (i : Int), .int .i64 (v.slot : Int), .int .i64 (v.age : Int), .int .i64 (v.first : Int), .bool true, vP, vH, .int .i64 (v.seg : Int), .int .i64 (v.used : Int)]
structure WalB (w : World) (x p i : Nat) (v : WalV) (vP vH : Value) : Prop where
  blk : Blk w x 64 (walC p i v vP vH)
  pl : Row1 w vP v.places
  he : Row1 w vH v.held
  apart : ∀ b, vP.ownBlock = some b → vH.ownBlock ≠ some b
def WalG (x : Nat) (vP vH : Value) (b : Nat) : Prop := b = x ∨ vP.ownBlock = some b ∨ vH.ownBlock = some b
theorem WalB.turn {w w' : World} {x p i : Nat} {v : WalV} {vP vH : Value} {F : Nat → Prop} (h : WalB w x p i v vP vH) (ht : Turn F w w') (hF : ∀ b, WalG x vP vH b → ¬ F b) : WalB w' x p i v vP vH :=
  ⟨h.blk.turn ht (hF x (.inl rfl)), h.pl.turn ht (fun b e => hF b (.inr (.inl e))), h.he.turn ht (fun b e => hF b (.inr (.inr e))), h.apart⟩
theorem WalB.still {w w' : World} {x p i : Nat} {v : WalV} {vP vH : Value} (h : WalB w x p i v vP vH) (ht : Turn nowhere w w') : WalB w' x p i v vP vH := h.turn ht fun _ _ e => e
theorem Row1.form {w : World} {v : Value} {ns : List Nat} (h : Row1 w v ns) : ∃ A c, v = .slice A ns.length c := by
  obtain ⟨A, c, e, _⟩ := h
  exact ⟨A, c, e⟩
def freeB (v : WalV) (sg : Nat) : Bool := decide (v.held[sg]? = some 0) && decide (sg ≠ v.seg)
def roomN (v : WalV) : Nat := ((List.range v.held.length).filter fun sg => freeB v sg).length
def roomK (v : WalV) (k : Nat) : Nat := ((List.range k).filter fun sg => freeB v sg).length
theorem roomK_succ (v : WalV) (k : Nat) : roomK v (k + 1) = roomK v k + (if freeB v k = true then 1 else 0) := by
  unfold roomK
  rw [List.range_succ, List.filter_append, List.length_append]
  by_cases h : freeB v k = true <;> simp [h]
theorem roomK_le (v : WalV) : ∀ k, roomK v k ≤ k
  | 0 => Nat.le_refl _
  | k + 1 => by rw [roomK_succ]; have := roomK_le v k; split <;> omega
def freeK (v : WalV) (k : Nat) : Option Nat := (List.range k).find? fun sg => freeB v sg
def freeV : Option Nat → Int
  | none => -1
  | some n => n
theorem freeK_succ (v : WalV) (k : Nat) (h : freeK v k = none) : freeK v (k + 1) = if freeB v k = true then some k else none := by
  unfold freeK at *
  rw [List.range_succ, List.find?_append, h]
  by_cases e : freeB v k = true <;> simp [e]
theorem freeK_more (v : WalV) {k m j : Nat} (h : freeK v k = some j) (hm : k ≤ m) : freeK v m = some j := by
  obtain ⟨d, rfl⟩ := Nat.exists_eq_add_of_le hm
  unfold freeK at *
  rw [List.range_add, List.find?_append, h]
  rfl
set_option maxRecDepth 20000 in
set_option maxHeartbeats 4000000 in
theorem First_walk {w : World} {x p i : Nat} {v : WalV} {vP vH : Value} (h : WalB w x p i v vP vH) :
    Calls Tryd.prog 16 #[.pointer (some ⟨x, 0, none⟩)] w fun r w' => r = .returned (.int .i64 (v.first : Int)) ∧ w' = w := by
  have H := Lib.hid h
  go_enter Tryd.func16, Tryd.ntmps16
  go_upto_region 0 with fail
  refine wp_region_lit ?_
  refine nR (.int .i64 0) (gx_assign rfl rfl) ?_;simp only [zz]
  go_upto_region 1 with fail
  refine wp_region_lit ?_
  refine nR (.pointer (some ⟨x, 0, none⟩)) (exec_move rfl rfl) ?_;simp only [zz];refine nR (.pointer (some ⟨x, 0, none⟩)) (exec_nil rfl rfl) ?_;simp only [zz];refine nR (.pointer (some ⟨x, 2, none⟩)) (exec_field (off := 0) (d := 2) rfl rfl (by kernel_rfl)) ?_;simp only [zz];refine nR (.pointer (some ⟨x, 4, none⟩)) (exec_field (off := 2) (d := 2) rfl rfl (by kernel_rfl)) ?_;simp only [zz];refine nR (.int .i64 (v.first : Int)) (exec_load1 rfl rfl (by kernel_rfl) (H.out.blk.cell 4)) ?_;simp only [zz];refine nR (.int .i64 (v.first : Int)) (gx_assign rfl rfl) ?_;simp only [zz]
  go_wp2_with fail
  go_ret
  exact ⟨rfl, rfl⟩
set_option maxRecDepth 20000 in
set_option maxHeartbeats 4000000 in
theorem Next_walk {w : World} {x p i : Nat} {v : WalV} {vP vH : Value} (h : WalB w x p i v vP vH) (hf : v.first ≤ 1099511627776) :
    Calls Tryd.prog 17 #[.pointer (some ⟨x, 0, none⟩)] w fun r w' => r = .returned (.int .i64 ((v.first + v.places.length : Nat) : Int)) ∧ Turn nowhere w w' := by
  have H := Lib.hid h
  obtain ⟨A, c, hv⟩ := h.pl.form
  subst hv
  have yl : v.places.length ≤ 1099511627776 := by
    obtain ⟨A', c', e, h1, h2, _⟩ := h.pl
    omega
  clear h
  go_enter Tryd.func17, Tryd.ntmps17
  go_upto_region 0 with fail
  refine wp_region_lit ?_
  refine nR (.int .i64 0) (gx_assign rfl rfl) ?_;simp only [zz]
  go_upto_region 1 with fail
  refine wp_region_alw (fun W => Blk W x 64 (walC p i v (.slice A v.places.length c) vH)) (by kernel_rfl) ?_
  have hS0 : (fun W => Blk W x 64 (walC p i v (.slice A v.places.length c) vH)) w.drew := H.out.blk.drew
  have HD := Lib.hid ((Turn.refl nowhere w).drew)
  generalize w.drew = wd at *
  refine alw_take (i := 0) (v := .pointer (some ⟨x, 0, none⟩)) rfl (by kernel_rfl) (by kernel_rfl) (fun _ _ _ h => h) (.inl ⟨by rfl, fun W hW => exec_move rfl rfl⟩) hS0 ?_
  simp only [zz]
  refine alw_take (i := 1) (v := .pointer (some ⟨x, 0, none⟩)) rfl (by kernel_rfl) (by kernel_rfl) (fun _ _ _ h => h) (.inl ⟨by rfl, fun W hW => exec_nil rfl rfl⟩) hS0 ?_
  simp only [zz]
  refine alw_take (i := 2) (v := .pointer (some ⟨x, 2, none⟩)) rfl (by kernel_rfl) (by kernel_rfl) (fun _ _ _ h => h) (.inl ⟨by rfl, fun W hW => exec_field (off := 0) (d := 2) rfl rfl (by kernel_rfl)⟩) hS0 ?_
  simp only [zz]
  refine alw_take (i := 3) (v := .pointer (some ⟨x, 4, none⟩)) rfl (by kernel_rfl) (by kernel_rfl) (fun _ _ _ h => h) (.inl ⟨by rfl, fun W hW => exec_field (off := 2) (d := 2) rfl rfl (by kernel_rfl)⟩) hS0 ?_
  simp only [zz]
  refine alw_take (i := 4) (v := .int .i64 (v.first : Int)) rfl (by kernel_rfl) (by kernel_rfl) (fun _ _ _ h => h) (.inl ⟨by rfl, fun W hW => exec_load1 rfl rfl (by kernel_rfl) (hW.cell 4)⟩) hS0 ?_
  simp only [zz]
  refine alw_take (i := 5) (v := .pointer (some ⟨x, 0, none⟩)) rfl (by kernel_rfl) (by kernel_rfl) (fun _ _ _ h => h) (.inl ⟨by rfl, fun W hW => exec_move rfl rfl⟩) hS0 ?_
  simp only [zz]
  refine alw_take (i := 6) (v := .pointer (some ⟨x, 0, none⟩)) rfl (by kernel_rfl) (by kernel_rfl) (fun _ _ _ h => h) (.inl ⟨by rfl, fun W hW => exec_nil rfl rfl⟩) hS0 ?_
  simp only [zz]
  refine alw_take (i := 7) (v := .pointer (some ⟨x, 6, none⟩)) rfl (by kernel_rfl) (by kernel_rfl) (fun _ _ _ h => h) (.inl ⟨by rfl, fun W hW => exec_field (off := 0) (d := 6) rfl rfl (by kernel_rfl)⟩) hS0 ?_
  simp only [zz]
  refine alw_take (i := 8) (v := .slice A v.places.length c) rfl (by kernel_rfl) (by kernel_rfl) (fun _ _ _ h => h) (.inl ⟨by rfl, fun W hW => exec_load1 rfl rfl (by kernel_rfl) (hW.cell 6)⟩) hS0 ?_
  simp only [zz]
  refine alw_take (i := 9) (v := .int .i64 (v.places.length : Int)) rfl (by kernel_rfl) (by kernel_rfl) (fun _ _ _ h => h) (.inl ⟨by rfl, fun W hW => gx_len rfl rfl Tryd.underlying34⟩) hS0 ?_
  simp only [zz]
  refine alw_take (i := 10) (v := .int .i64 ((v.first + v.places.length : Nat) : Int)) rfl (by kernel_rfl) (by kernel_rfl) (fun _ _ _ h => h) (.inl ⟨by rfl, fun W hW => ix_add rfl rfl rfl (by omega) (by omega)⟩) hS0 ?_
  simp only [zz]
  refine alw_take (i := 11) (v := .int .i64 ((v.first + v.places.length : Nat) : Int)) rfl (by kernel_rfl) (by kernel_rfl) (fun _ _ _ h => h) (.inl ⟨by rfl, fun W hW => gx_assign rfl rfl⟩) hS0 ?_
  simp only [zz]
  refine alw_done rfl ?_
  refine NoPanic.normal ?_
  clear hS0
  try simp only [zz]
  go_wp2_with fail
  go_ret
  exact ⟨rfl, HD.out⟩
set_option maxRecDepth 20000 in
set_option maxHeartbeats 4000000 in
theorem isFree_walk {w : World} {x p i : Nat} {v : WalV} {vP vH : Value} (h : WalB w x p i v vP vH) (sg n : Nat) (hs : v.held[sg]? = some n) :
    Calls Tryd.prog 39 #[.pointer (some ⟨x, 0, none⟩), .int .i64 (sg : Int)] w fun r w' => r = .returned (.bool (freeB v sg)) ∧ w' = w := by
  have H := Lib.hid h
  obtain ⟨g, off, c, hv, hc⟩ := h.he.at_ hs
  subst hv
  have HC := Lib.hid hc
  have HLT := Lib.hid (List.getElem?_eq_some_iff.1 hs).1
  have HFR := Lib.hid (show freeB v sg = (decide (n = 0) && decide (sg ≠ v.seg)) by unfold freeB; rw [hs]; simp)
  clear h hc hs
  go_enter Tryd.func39, Tryd.ntmps39
  go_upto_region 0 with fail
  refine wp_region_lit ?_
  refine nR (.bool false) (gx_assign rfl rfl) ?_;simp only [zz]
  by_cases hn : n = 0
  · go_upto_region 1 with fail
    refine wp_region_lit ?_
    refine nR (.pointer (some ⟨x, 0, none⟩)) (exec_move rfl rfl) ?_;simp only [zz];refine nR (.pointer (some ⟨x, 0, none⟩)) (exec_nil rfl rfl) ?_;simp only [zz];refine nR (.pointer (some ⟨x, 7, none⟩)) (exec_field (off := 0) (d := 7) rfl rfl (by kernel_rfl)) ?_;simp only [zz];refine nR (.slice (some ⟨g, off, none⟩) v.held.length c) (exec_load1 rfl rfl (by kernel_rfl) (H.out.blk.cell 7)) ?_;simp only [zz];refine nR (.int .i64 (sg : Int)) (exec_move rfl rfl) ?_;simp only [zz];refine nR (.pointer (some ⟨g, off + sg, none⟩)) (gx_iaddr (i := sg) (sz := 1) rfl rfl rfl Tryd.underlying34 size_int HLT.out (by omega)) ?_;simp only [zz];refine nR (.int .i64 (n : Int)) (exec_load1 rfl rfl (by kernel_rfl) HC.out) ?_;simp only [zz];refine nR (.bool true) (ix_eql rfl rfl rfl (decide_eq_true (by omega))) ?_;simp only [zz];refine nR (.bool true) (exec_move rfl rfl) ?_;simp only [zz];refine wpList_run (v := .int .i64 (sg : Int)) rfl (exec_move rfl rfl) ?_;simp only [zz];refine wpList_run (v := .pointer (some ⟨x, 0, none⟩)) rfl (exec_move rfl rfl) ?_;simp only [zz];refine wpList_run (v := .pointer (some ⟨x, 0, none⟩)) rfl (exec_nil rfl rfl) ?_;simp only [zz];refine wpList_run (v := .pointer (some ⟨x, 8, none⟩)) rfl (exec_field (off := 0) (d := 8) rfl rfl (by kernel_rfl)) ?_;simp only [zz];refine wpList_run (v := .int .i64 (v.seg : Int)) rfl (exec_load1 rfl rfl (by kernel_rfl) (H.out.blk.cell 8)) ?_;simp only [zz];refine wpList_run (v := .bool (decide (sg ≠ v.seg))) rfl (ix_neq rfl rfl rfl (by rw [Bool.eq_iff_iff]; simp only [decide_eq_true_eq]; omega)) ?_;simp only [zz];refine nR (.bool (decide (sg ≠ v.seg))) (ix_pickT rfl rfl rfl) ?_;simp only [zz];refine nR (.bool (decide (sg ≠ v.seg))) (gx_assign rfl rfl) ?_;simp only [zz]
    go_wp2_with fail
    go_ret
    exact ⟨ret_bool (by rw [HFR.out, decide_eq_true hn, Bool.true_and]), rfl⟩
  · go_upto_region 1 with fail
    first
    | (rename_i K9 hK9; have HKC := Lib.hid hK9; clear hK9)
    | (rename_i K9 hK9 K8; have HKC := Lib.hid hK9; clear hK9)
    refine wp_region_lit ?_
    refine nR (.pointer (some ⟨x, 0, none⟩)) (exec_move rfl rfl) ?_;simp only [zz];refine nR (.pointer (some ⟨x, 0, none⟩)) (exec_nil rfl rfl) ?_;simp only [zz];refine nR (.pointer (some ⟨x, 7, none⟩)) (exec_field (off := 0) (d := 7) rfl rfl (by kernel_rfl)) ?_;simp only [zz];refine nR (.slice (some ⟨g, off, none⟩) v.held.length c) (exec_load1 rfl rfl (by kernel_rfl) (H.out.blk.cell 7)) ?_;simp only [zz];refine nR (.int .i64 (sg : Int)) (exec_move rfl rfl) ?_;simp only [zz];refine nR (.pointer (some ⟨g, off + sg, none⟩)) (gx_iaddr (i := sg) (sz := 1) rfl rfl rfl Tryd.underlying34 size_int HLT.out (by omega)) ?_;simp only [zz];refine nR (.int .i64 (n : Int)) (exec_load1 rfl rfl (by kernel_rfl) HC.out) ?_;simp only [zz];refine nR (.bool false) (ix_eql rfl rfl rfl (decide_eq_false (by omega))) ?_;simp only [zz];refine nR (.bool false) (exec_move rfl rfl) ?_;simp only [zz]
    go_wp2_with fail
    refine HKC.out _ _ ?_
    clear HKC
    go_wp2_with fail
    go_ret
    exact ⟨ret_bool (by rw [HFR.out, decide_eq_false hn, Bool.false_and]), rfl⟩
set_option maxRecDepth 20000 in
set_option maxHeartbeats 4000000 in
theorem Room_walk {w : World} {x p i : Nat} {v : WalV} {vP vH : Value} (h : WalB w x p i v vP vH) :
    Calls Tryd.prog 18 #[.pointer (some ⟨x, 0, none⟩)] w fun r w' => r = .returned (.int .i64 ((roomN v : Nat) : Int)) ∧ w' = w := by
  have H := Lib.hid h
  have yl : v.held.length ≤ 1099511627776 := by
    obtain ⟨A', c', e, h1, h2, _⟩ := h.he
    omega
  obtain ⟨A, c, hv⟩ := h.he.form
  clear h
  go_enter Tryd.func18, Tryd.ntmps18
  go_upto_region 0 with fail
  refine wp_region_lit ?_
  refine nR (.int .i64 0) (gx_assign rfl rfl) ?_;simp only [zz]
  go_upto_region 1 with fail
  refine wp_region_lit ?_
  refine nR (.int .i64 0) (gx_assign rfl rfl) ?_;simp only [zz]
  go_upto_region 2 with fail
  refine wp_region_lit ?_
  refine nR (.pointer (some ⟨x, 0, none⟩)) (exec_move rfl rfl) ?_;simp only [zz];refine nR (.pointer (some ⟨x, 0, none⟩)) (exec_nil rfl rfl) ?_;simp only [zz];refine nR (.pointer (some ⟨x, 7, none⟩)) (exec_field (off := 0) (d := 7) rfl rfl (by kernel_rfl)) ?_;simp only [zz];refine nR (.slice A v.held.length c) (exec_load1 rfl rfl (by kernel_rfl) ((H.out.blk.cell 7).trans (by rw [← hv]; rfl))) ?_;simp only [zz];refine nR (.int .i64 (v.held.length : Int)) (gx_len rfl rfl Tryd.underlying34) ?_;simp only [zz];refine nR (.int .i64 0) (exec_move rfl rfl) ?_;simp only [zz]
  have HV := Lib.hid hv
  clear hv
  go_wp2_with fail
  go_loopg [3, 10] v.held.length (fun gk nv iv wr => ∃ j : Nat, iv = .int .i64 (j : Int) ∧ j + gk = v.held.length ∧ nv = .int .i64 ((roomK v j : Nat) : Int) ∧ wr = w)
  case atStart => exact ⟨0, rfl, by omega, rfl, rfl⟩
  obtain ⟨j, rfl, hgk, rfl, rfl⟩ := hrel
  have HGK := Lib.hid hgk
  have yj : j ≤ v.held.length := by omega
  have yr : roomK v j ≤ j := roomK_le v j
  clear hgk
  by_cases hlt : j < v.held.length
  · have y3 : (j : Int) < (v.held.length : Int) := by omega
    have HLT := Lib.hid hlt
    have HSU := Lib.hid (roomK_succ v j)
    go_upto_region 3 with fail
    refine wp_region_lit ?_
    refine nR (.bool true) (ix_lss rfl rfl rfl (decide_eq_true y3)) ?_;simp only [zz]
    go_upto_region 4 with fail
    refine wp_region_lit ?_
    refine nR (.int .i64 (j : Int)) (exec_move rfl rfl) ?_;simp only [zz];refine nR (.int .i64 (j : Int)) (gx_assign rfl rfl) ?_;simp only [zz]
    go_upto_region 5 with fail
    refine wp_region_lit ?_
    refine nR (.pointer (some ⟨x, 0, none⟩)) (exec_move rfl rfl) ?_;simp only [zz];refine nR (.int .i64 (j : Int)) (exec_move rfl rfl) ?_;simp only [zz]
    refine wpList_op rfl fun K9 HK9 => ?_
    go_wp2_with fail
    refine (isFree_walk H.out j _ (List.getElem?_eq_getElem HLT.out)).mono ?_
    rintro e wr ⟨rfl, rfl⟩
    refine HK9.out _ _ ?_
    clear HK9
    try simp only [zz]
    cases hfb : freeB v j
    · go_upto_region 7 with fail
      refine wp_region_lit ?_
      refine nR (.int .i64 ((j + 1 : Nat) : Int)) (ix_add rfl rfl rfl (by omega) (by omega)) ?_;simp only [zz];refine nR (.int .i64 ((j + 1 : Nat) : Int)) (exec_move rfl rfl) ?_;simp only [zz]
      go_wp2_with fail
      go_roundg (v.held.length - (j + 1))
      case measure => have := HGK.out; have := HLT.out; omega
      case rel => exact ⟨j + 1, rfl, by have := HLT.out; omega, by rw [HSU.out, hfb]; rfl, rfl⟩
    · go_upto_region 6 with fail
      refine wp_region_lit ?_
      refine nR (.int .i64 ((roomK v j : Nat) : Int)) (exec_move rfl rfl) ?_;simp only [zz];refine nR (.int .i64 ((roomK v j + 1 : Nat) : Int)) (ix_add rfl rfl rfl (by omega) (by omega)) ?_;simp only [zz];refine nR (.int .i64 ((roomK v j + 1 : Nat) : Int)) (gx_assign rfl rfl) ?_;simp only [zz]
      go_upto_region 7 with fail
      refine wp_region_lit ?_
      refine nR (.int .i64 ((j + 1 : Nat) : Int)) (ix_add rfl rfl rfl (by omega) (by omega)) ?_;simp only [zz];refine nR (.int .i64 ((j + 1 : Nat) : Int)) (exec_move rfl rfl) ?_;simp only [zz]
      go_wp2_with fail
      go_roundg (v.held.length - (j + 1))
      case measure => have := HGK.out; have := HLT.out; omega
      case rel => exact ⟨j + 1, rfl, by have := HLT.out; omega, by rw [HSU.out, hfb]; rfl, rfl⟩
  · obtain rfl : j = v.held.length := by omega
    go_upto_region 3 with fail
    refine wp_region_lit ?_
    refine nR (.bool false) (ix_lss rfl rfl rfl (decide_eq_false (by omega))) ?_;simp only [zz]
    go_upto_region 8 with fail
    refine wp_region_lit ?_
    refine nR (.int .i64 ((roomK v v.held.length : Nat) : Int)) (exec_move rfl rfl) ?_;simp only [zz];refine nR (.int .i64 ((roomK v v.held.length : Nat) : Int)) (gx_assign rfl rfl) ?_;simp only [zz]
    go_wp2_with fail
    go_ret
    exact ⟨rfl, rfl⟩
set_option maxRecDepth 20000 in
set_option maxHeartbeats 4000000 in
theorem freeSegment_walk {w : World} {x p i : Nat} {v : WalV} {vP vH : Value} (h : WalB w x p i v vP vH) :
    Calls Tryd.prog 27 #[.pointer (some ⟨x, 0, none⟩)] w fun r w' => r = .returned (.int .i64 (freeV (freeK v v.held.length))) ∧ w' = w := by
  have H := Lib.hid h
  have yl : v.held.length ≤ 1099511627776 := by
    obtain ⟨A', c', e, h1, h2, _⟩ := h.he
    omega
  obtain ⟨A, c, hv⟩ := h.he.form
  clear h
  go_enter Tryd.func27, Tryd.ntmps27
  go_upto_region 0 with fail
  refine wp_region_lit ?_
  refine nR (.int .i64 0) (gx_assign rfl rfl) ?_;simp only [zz]
  go_upto_region 1 with fail
  refine wp_region_lit ?_
  refine nR (.pointer (some ⟨x, 0, none⟩)) (exec_move rfl rfl) ?_;simp only [zz];refine nR (.pointer (some ⟨x, 0, none⟩)) (exec_nil rfl rfl) ?_;simp only [zz];refine nR (.pointer (some ⟨x, 7, none⟩)) (exec_field (off := 0) (d := 7) rfl rfl (by kernel_rfl)) ?_;simp only [zz];refine nR (.slice A v.held.length c) (exec_load1 rfl rfl (by kernel_rfl) ((H.out.blk.cell 7).trans (by rw [← hv]; rfl))) ?_;simp only [zz];refine nR (.int .i64 (v.held.length : Int)) (gx_len rfl rfl Tryd.underlying34) ?_;simp only [zz];refine nR (.int .i64 0) (exec_move rfl rfl) ?_;simp only [zz]
  have HV := Lib.hid hv
  clear hv
  go_wp2_with fail
  go_loopg [9] v.held.length (fun gk iv wr => ∃ j : Nat, iv = .int .i64 (j : Int) ∧ j + gk = v.held.length ∧ freeK v j = none ∧ wr = w)
  case atStart => exact ⟨0, rfl, by omega, rfl, rfl⟩
  obtain ⟨j, rfl, hgk, hno, rfl⟩ := hrel
  have HGK := Lib.hid hgk
  have HNO := Lib.hid hno
  have yj : j ≤ v.held.length := by omega
  clear hgk hno
  by_cases hlt : j < v.held.length
  · have y3 : (j : Int) < (v.held.length : Int) := by omega
    have HLT := Lib.hid hlt
    have HSU := Lib.hid (freeK_succ v j HNO.out)
    go_upto_region 2 with fail
    refine wp_region_lit ?_
    refine nR (.bool true) (ix_lss rfl rfl rfl (decide_eq_true y3)) ?_;simp only [zz]
    go_upto_region 3 with fail
    refine wp_region_lit ?_
    refine nR (.int .i64 (j : Int)) (exec_move rfl rfl) ?_;simp only [zz];refine nR (.int .i64 (j : Int)) (gx_assign rfl rfl) ?_;simp only [zz]
    go_upto_region 4 with fail
    refine wp_region_lit ?_
    refine nR (.pointer (some ⟨x, 0, none⟩)) (exec_move rfl rfl) ?_;simp only [zz];refine nR (.int .i64 (j : Int)) (exec_move rfl rfl) ?_;simp only [zz]
    refine wpList_op rfl fun K9 HK9 => ?_
    go_wp2_with fail
    refine (isFree_walk H.out j _ (List.getElem?_eq_getElem HLT.out)).mono ?_
    rintro e wr ⟨rfl, rfl⟩
    refine HK9.out _ _ ?_
    clear HK9
    try simp only [zz]
    cases hfb : freeB v j
    · go_upto_region 6 with fail
      refine wp_region_lit ?_
      refine nR (.int .i64 ((j + 1 : Nat) : Int)) (ix_add rfl rfl rfl (by omega) (by omega)) ?_;simp only [zz];refine nR (.int .i64 ((j + 1 : Nat) : Int)) (exec_move rfl rfl) ?_;simp only [zz]
      go_wp2_with fail
      go_roundg (v.held.length - (j + 1))
      case measure => have := HGK.out; have := HLT.out; omega
      case rel => exact ⟨j + 1, rfl, by have := HLT.out; omega, by rw [HSU.out, hfb]; rfl, rfl⟩
    · go_upto_region 5 with fail
      refine wp_region_lit ?_
      refine nR (.int .i64 (j : Int)) (exec_move rfl rfl) ?_;simp only [zz];refine nR (.int .i64 (j : Int)) (gx_assign rfl rfl) ?_;simp only [zz]
      go_wp2_with fail
      go_ret
      have h1 : freeK v (j + 1) = some j := by rw [HSU.out, hfb]; rfl
      exact ⟨by rw [freeK_more v h1 HLT.out]; rfl, rfl⟩
  · obtain rfl : j = v.held.length := by omega
    go_upto_region 2 with fail
    refine wp_region_lit ?_
    refine nR (.bool false) (ix_lss rfl rfl rfl (decide_eq_false (by omega))) ?_;simp only [zz]
    go_upto_region 7 with fail
    refine wp_region_lit ?_
    refine nR (.int .i64 (-1)) (gx_assign rfl rfl) ?_;simp only [zz]
    go_wp2_with fail
    go_ret
    exact ⟨by rw [HNO.out]; rfl, rfl⟩
end Go.Proofs.YtelipeoilcepbaaDoor
