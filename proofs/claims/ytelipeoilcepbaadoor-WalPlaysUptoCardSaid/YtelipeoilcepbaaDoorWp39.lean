/-
  Texts in one file: WmPe. Conditions: the tables and the errors read as the program's text lays them.
-/
import Derived.Test.YtelipeoilcepbaaDoorWp0
import Derived.Test.YtelipeoilcepbaaDoorWp38
import Derived.Deep.Cut
namespace Go.Proofs.YtelipeoilcepbaaDoor
open Go.RowKit
open Wl (B8)
set_option linter.unusedVariables false
set_option linter.unusedSimpArgs false
set_option maxRecDepth 20000
theorem size_owop : (Tryd.prog.info? 36).map (·.size) = some 4 := by kernel_rfl
theorem zero_owop (w : World) : (zeroValue 36).run Tryd.prog w = .ok (.agg #[.int .i64 0, .int .i64 0, .slice none 0 0, .slice none 0 0]) w := by kernel_rfl
theorem owop_one (o : OpV) : ∀ v ∈ o.cells.toArray.toList, v.oneCell' = true := fun v hv => by
  simp only [OpV.cells, List.mem_cons, List.not_mem_nil, or_false] at hv
  rcases hv with rfl | rfl | rfl | rfl <;> rfl
theorem build_bk0' (W : World) : (Instr.build 32 #[]).run Tryd.prog W = .ok (.agg #[.int .i64 0, .slice none 0 0]) W := by kernel_rfl
theorem newer9 {w0 w1 w2 : World} {p : Nat} (h : Turn nowhere w0 w1) (hp : w0.heap.size ≤ p) (g : Turn (only p) w1 w2) : Turn nowhere w0 w2 := h.trans g fun k hk e => by
  obtain rfl : k = p := e
  omega
theorem bx_neb {a : Act} {o : Oper} {W : World} {x y : Operand} {p q : Bool} (ho : o.op = .binOp .neq 4 x y 4) (hx : a.eval x = .bool p) (hy : a.eval y = .bool q) : (execOp a.eval o).run Tryd.prog W = .ok (.value (.bool (!(p == q)))) W := by
  unfold execOp
  simp only [ho, hx, hy]
  cases p <;> cases q <;> go_simp
theorem ix_addw {a : Act} {o : Oper} {W : World} {x y : Operand} {i j r : Int} (ho : o.op = .binOp .add 3 x y 3) (hx : a.eval x = .int .i64 i) (hy : a.eval y = .int .i64 j) (h : IntKind.i64.wrap (i + j) = r) : (execOp a.eval o).run Tryd.prog W = .ok (.value (.int .i64 r)) W := by
  unfold execOp
  simp only [ho, hx, hy]
  go_simp
  try exact h
def AppR (S f : Nat) (L : List Wl.Rec) (l : Wl.Rec) (nv ev : Int) (L' : List Wl.Rec) : Prop := (Wl.long l ∧ nv = 0 ∧ ev = 5 ∧ L' = L) ∨ (¬ Wl.long l ∧ nv = ((f + L.length : Nat) : Int) ∧ ev = 0 ∧ L' = L ++ [l]) ∨ (¬ Wl.long l ∧ ¬ Fits9 S l L ∧ nv = 0 ∧ ev = 3 ∧ L' = L)
theorem Cso.appendA {w wr : World} {p x S f B a b : Nat} {n : Int} {L : List Wl.Rec} {bs : List Bo} (h : Cso a b w wr B bs (Rp p x S n f B L)) (hw : Turn nowhere w wr) (hB : B ≤ 100000) (hS : 3 ≤ S) {A : Option Addr} {m cap : Nat} {l : Wl.Rec} (hl : Ls wr A m l) :
    Calls Tryd.prog 8 #[.pointer (some ⟨x, 0, none⟩), .slice A m cap] wr fun r w' => Turn nowhere w w' ∧ Turn (fun k => k < a ∨ b ≤ k) wr w' ∧ ∃ nv ev L', r = .returned (.tuple #[.int .i64 nv, .int .i64 ev]) ∧ AppR S f L l nv ev L' ∧ Cso a b w w' (B + 1) bs (Rp p x S n f (B + 1) L') := by
  refine (h.append (cap := cap) hw hB hS hl).mono ?_
  rintro r w' ⟨h1, h2, ⟨h3, rfl, h4⟩ | ⟨h3, rfl, h4⟩ | ⟨h3, h5, rfl, h4⟩⟩
  · exact ⟨h1, h2, _, _, _, rfl, .inl ⟨h3, rfl, rfl, rfl⟩, h4⟩
  · exact ⟨h1, h2, _, _, _, rfl, .inr (.inl ⟨h3, rfl, rfl, rfl⟩), h4⟩
  · exact ⟨h1, h2, _, _, _, rfl, .inr (.inr ⟨h3, h5, rfl, rfl, rfl⟩), h4⟩
theorem OwnR.nil9 (w : World) (l : Wl.Rec) : OwnR (w.alloc (.cells #[] 38)) w.heap.size (.slice (some ⟨w.heap.size, 0, none⟩) 0 0) l 0 := ⟨[], ⟨Fit.nil 1, World.ownsRow_made w #[] 0 (Nat.le_refl _) (by unfold maxLen; omega) (by simp)⟩, rfl, fun j u x hu => by simp at hu⟩
set_option maxRecDepth 20000 in
set_option maxHeartbeats 4000000 in
theorem walPlays_main (a0 : Int) (A1 : Option Addr) (n1 c1 : Nat) (os : List OpV) (w : World) (h0 : -9223372036854775808 ≤ a0 ∧ a0 ≤ 9223372036854775807) (h1 : OwAt w A1 n1 os) (htab : Tab w) :
    Calls Tryd.prog 3 #[.int .i64 a0, .slice A1 n1 c1] w fun r w' => r = .returned (.bool true) ∧ Turn nowhere w w' := by
  have HI := Lib.hid h0
  have HOS := Lib.hid h1
  have HOL := Lib.hid h1.len
  have HTAB := Lib.hid htab
  clear h0 h1 htab
  go_enter Tryd.func3, Tryd.ntmps3
  go_upto_region 0 with fail
  refine wp_region_lit ?_
  refine nR (.bool false) (gx_assign rfl rfl) ?_;simp only [zz]
  go_upto_region 1 with fail
  refine wp_region_lit ?_
  refine wpList_op rfl fun K9 HK9 => ?_
  go_wp2_with fail
  refine (shown_walk HTAB.out).mono ?_
  rintro e w1 ⟨rfl, ht⟩
  refine HK9.out _ _ ?_
  clear HK9
  try simp only [zz]
  have HT1 := Lib.hid ht
  have HTAB1 := Lib.hid (tab_still HTAB.out ht)
  clear ht
  refine nR (.bool true) (gx_assign rfl rfl) ?_;simp only [zz]
  go_upto_region 2 with fail
  refine wp_region_lit ?_
  refine nR (.int .i64 a0) (exec_move rfl rfl) ?_;simp only [zz]
  have hai := among_in (c := a0) (n := 443) (by omega)
  obtain ⟨n9, hn9⟩ : ∃ n9 : Nat, amongI a0 443 = (n9 : Int) := ⟨(amongI a0 443).toNat, by omega⟩
  have HN9 := Lib.hid hn9
  have yn9 : n9 < 443 := by omega
  clear hai hn9
  refine wpList_op rfl fun K9 HK9 => ?_
  go_wp2_with fail
  refine (among_walk a0 443 HI.out (by omega)).mono ?_
  rintro e w1 ⟨rfl, rfl⟩
  refine HK9.out _ _ ?_
  clear HK9
  try simp only [zz]
  rw [HN9.out]
  clear HN9
  refine nR (.int .i64 ((258 + n9 : Nat) : Int)) (ix_add rfl rfl rfl (by omega) (by omega)) ?_;simp only [zz];refine nR (.int .i64 ((258 + n9 : Nat) : Int)) (gx_assign rfl rfl) ?_;simp only [zz]
  obtain ⟨n, hn⟩ : ∃ n, n = 258 + n9 := ⟨_, rfl⟩
  rw [← hn]
  have yn : 258 ≤ n ∧ n ≤ 700 := by omega
  clear hn yn9
  go_upto_region 3 with fail
  refine wp_region_lit ?_
  refine nR (.int .i64 (n : Int)) (exec_move rfl rfl) ?_;simp only [zz]
  refine wpList_op rfl fun K9 HK9 => ?_
  go_wp2_with fail
  refine (ground_cp n (by omega) (by omega) HTAB1.out).mono ?_
  rintro e w2 ⟨ht, p, xg, rfl, hst⟩
  refine HK9.out _ _ ?_
  clear HK9
  try simp only [zz]
  have HT2 := Lib.hid (HT1.out.trans ht fun _ _ e => e)
  obtain ⟨S, hS⟩ : ∃ S, S = (n - 2) / 64 := ⟨_, rfl⟩
  rw [← hS] at hst
  have HSD := Lib.hid hS
  have HDV := Lib.hid (show (((n - 2 : Nat) / 64 : Nat) : Int) = (S : Int) from by rw [hS])
  have HSG := Lib.hid (show segsN (n : Int) = S from by unfold segsN; split <;> omega)
  have yS : 3 ≤ S ∧ S ≤ 10 := by omega
  have HS0 := Lib.hid (show S ≠ 0 from by omega)
  have HST := Lib.hid hst
  clear ht hst hS HTAB1
  refine nR (.tuple #[.pointer (some ⟨p, 0, none⟩), .pointer (some ⟨xg, 0, none⟩)]) (exec_move rfl rfl) ?_;simp only [zz];refine nR (.pointer (some ⟨p, 0, none⟩)) (ix_extract rfl rfl rfl) ?_;simp only [zz];refine nR (.pointer (some ⟨xg, 0, none⟩)) (ix_extract rfl rfl rfl) ?_;simp only [zz];refine nR (.pointer (some ⟨p, 0, none⟩)) (gx_assign rfl rfl) ?_;simp only [zz];refine nR (.pointer (some ⟨xg, 0, none⟩)) (gx_assign rfl rfl) ?_;simp only [zz]
  go_upto_region 4 with fail
  refine wp_region_lit ?_
  refine nR (.bool true) (exec_move rfl rfl) ?_;simp only [zz];refine nR (.bool false) (ix_not (b := true) rfl rfl) ?_;simp only [zz];refine nR (.bool false) (exec_move rfl rfl) ?_;simp only [zz];refine wpList_run (v := .pointer (some ⟨xg, 0, none⟩)) rfl (exec_move rfl rfl) ?_;simp only [zz];refine wpList_run (v := .bool false) rfl (ptr_nilW rfl rfl rfl rfl) ?_;simp only [zz];refine nR (.bool false) (ix_pickF rfl rfl rfl) ?_;simp only [zz]
  go_upto_region 6 with fail
  refine wp_region_lit ?_
  refine nR (.agg #[.int .i64 0, .slice none 0 0]) (gx_build0 rfl (build_bk0' _)) ?_;simp only [zz];refine wpList_run (v := .pointer (some ⟨w2.heap.size, 0, none⟩)) (w' := w2.alloc (.cells #[.int .i64 0, .slice none 0 0] 32)) (wanted_none rfl) (gx_box rfl rfl (box_bk 0 none 0 0 w2)) ?_;simp only [zz];refine nR (.pointer (some ⟨w2.heap.size, 0, none⟩)) (gx_assign rfl rfl) ?_;simp only [zz]
  have hbn := Blk.new w2 32 #[.int .i64 0, .slice none 0 0]
  have htb := (Turn.refl nowhere w2).alloc (.cells #[.int .i64 0, .slice none 0 0] 32)
  obtain ⟨b0, hb0⟩ : ∃ z, z = w2.heap.size := ⟨_, rfl⟩
  rw [← hb0] at hbn ⊢
  have HST3 := Lib.hid (HST.out.new_ (by exact fun _ _ _ => Rp.still) htb (by omega : w2.heap.size ≤ b0) hbn)
  generalize w2.alloc (.cells #[.int .i64 0, .slice none 0 0] 32) = w3 at *
  have HT3 := Lib.hid (HT2.out.trans htb fun _ _ e => e)
  have HST4 := Lib.hid (show Cs w w3 (2 * 0) [(b0, 0, [])] (Rp p xg S n 0 (2 * 0) []) from by
    obtain ⟨G, Z, g1, g2, g3, g4⟩ := HST3.out
    exact ⟨G, Z, g1, fun k hk => ⟨Nat.le_trans HT1.out.size (g2 k hk).1, (g2 k hk).2⟩, g3, g4⟩)
  obtain ⟨m, hm⟩ : ∃ m, m = min n1 120 := ⟨_, rfl⟩
  have ym : m ≤ 120 ∧ m ≤ n1 ∧ (m = n1 ∨ m = 120) := by omega
  clear hm hbn htb hb0 HST HST3 HT2 HT1
  go_upto_region 7 with fail
  refine wp_region_lit ?_
  refine nR (.int .i64 0) (gx_assign rfl rfl) ?_;simp only [zz]
  go_wp2_with fail
  go_loopg [7, 8, 9] m (fun gk xv bv iv wr => ∃ (i b f x : Nat) (L : List Wl.Rec), xv = .pointer (some ⟨x, 0, none⟩) ∧ bv = .pointer (some ⟨b, 0, none⟩) ∧ iv = .int .i64 (i : Int) ∧ i + gk = m ∧ Turn nowhere w wr ∧ Cs w wr (2 * i) [(b, f, L)] (Rp p x S n f (2 * i) L) ∧ ∀ l ∈ L, ¬ Wl.long l)
  case atStart => exact ⟨0, b0, 0, xg, [], rfl, rfl, rfl, by omega, HT3.out, HST4.out, fun l hl => by cases hl⟩
  clear HT3 HST4
  obtain ⟨i, b, f, x, L, rfl, rfl, rfl, hgk, htr, hst, hll⟩ := hrel
  have HGK := Lib.hid hgk
  have HTR := Lib.hid htr
  have HFL := Lib.hid hst.rn.size
  have HST := Lib.hid hst
  have HLL := Lib.hid hll
  have yi : i ≤ m := by omega
  have yfl : f + L.length ≤ 2 * i := HFL.out
  clear hgk htr hst hll
  by_cases hlt : i < m
  · go_upto_region 8 with fail
    refine wp_region_lit ?_
    refine nR (.int .i64 (i : Int)) (exec_move rfl rfl) ?_;simp only [zz];refine nR (.slice A1 n1 c1) (exec_move rfl rfl) ?_;simp only [zz];refine nR (.int .i64 (n1 : Int)) (gx_len rfl rfl Tryd.underlying22) ?_;simp only [zz];refine nR (.bool true) (ix_lss rfl rfl rfl (decide_eq_true (by omega))) ?_;simp only [zz];refine nR (.bool true) (exec_move rfl rfl) ?_;simp only [zz];refine wpList_run (v := .int .i64 (i : Int)) rfl (exec_move rfl rfl) ?_;simp only [zz];refine wpList_run (v := .bool true) rfl (ix_lss rfl rfl rfl (decide_eq_true (by omega))) ?_;simp only [zz];refine nR (.bool true) (ix_pickT rfl rfl rfl) ?_;simp only [zz]
    obtain ⟨wa, hwz⟩ : ∃ z, z = wr := ⟨_, rfl⟩
    subst hwz
    have HLT := Lib.hid (show i < n1 from by omega)
    have HLM := Lib.hid hlt
    obtain ⟨o, ho⟩ : ∃ o, os[i]? = some o := ⟨os[i]'(by rw [HOL.out]; omega), List.getElem?_eq_getElem (by rw [HOL.out]; omega)⟩
    obtain ⟨bA, oA, rfl, hc⟩ := (HOS.out.still HTR.out).at_ ho
    have HC := Lib.hid hc
    have HOK := Lib.hid (HOS.out.ok o (List.mem_of_getElem? ho))
    clear hlt ho hc
    go_upto_region 10 with fail
    refine wp_region_lit ?_
    refine nR (.slice (some ⟨bA, oA, none⟩) n1 c1) (exec_move rfl rfl) ?_;simp only [zz];refine nR (.int .i64 (i : Int)) (exec_move rfl rfl) ?_;simp only [zz];refine nR (.pointer (some ⟨bA, oA + i * 4, none⟩)) (gx_iaddr (i := i) (sz := 4) rfl rfl rfl Tryd.underlying22 size_owop HLT.out rfl) ?_;simp only [zz];refine nR (.agg o.cells.toArray) (gx_loads rfl rfl HC.out Tryd.underlying36 rfl (by rw [size_owop]; rfl)) ?_;simp only [zz];refine wpList_run (v := .pointer (some ⟨wa.heap.size, 0, none⟩)) (w' := wa.alloc (.cells #[.int .i64 0, .int .i64 0, .slice none 0 0, .slice none 0 0] 36)) (wanted_none rfl) (gx_alloc rfl (zero_owop _)) ?_;simp only [zz]
    have hb_ := Blk.new wa 36 #[.int .i64 0, .int .i64 0, .slice none 0 0, .slice none 0 0]
    have ht_ := (Turn.refl nowhere wa).alloc (.cells #[.int .i64 0, .int .i64 0, .slice none 0 0, .slice none 0 0] 36)
    obtain ⟨v, hg_⟩ : ∃ g, g = wa.heap.size := ⟨_, rfl⟩
    rw [← hg_] at hb_ ⊢
    have HLv := Lib.hid (show wa.heap.size ≤ v from by omega)
    clear hg_
    generalize wa.alloc (.cells #[.int .i64 0, .int .i64 0, .slice none 0 0, .slice none 0 0] 36) = w3v at *
    have HBv := Lib.hid hb_
    have HT3v := Lib.hid ht_
    clear hb_ ht_
    refine wpList_store_row (wanted_none rfl) 36 (.tmp 10) (.tmp 53) rfl (o.cells.toArray) HBv.out rfl rfl (rfl) (by rw [size_owop] <;> rfl) (owop_one o) ?_
    intro w4 hb_ ht_
    have HBv4 := Lib.hid hb_
    have HT4v := Lib.hid ht_
    clear hb_ ht_
    simp only [zz]
    have HT34 := Lib.hid (newer9 HT3v.out HLv.out HT4v.out)
    have HT4 := Lib.hid (HTR.out.trans HT34.out fun _ _ e => e)
    have HVS := Lib.hid (show v < w4.heap.size from HBv4.out.lt)
    obtain ⟨oB, hoB⟩ : ∃ z, z = oA + i * 4 := ⟨_, rfl⟩
    rw [← hoB]
    obtain ⟨kk, hkk⟩ : ∃ kk, kk = amongI o.kd 10 := ⟨_, rfl⟩
    have hki := among_in (c := o.kd) (n := 10) (by omega)
    rw [← hkk] at hki
    have yk := hki
    have HKK := Lib.hid hkk
    clear HBv HT3v HT4v HC hoB hkk hki
    go_upto_region 11 with fail
    refine wp_region_lit ?_
    refine nR (.pointer (some ⟨v, 0, none⟩)) (exec_field (off := 0) (d := 0) rfl rfl (by kernel_rfl)) ?_;simp only [zz];refine nR (.int .i64 o.kd) (exec_load1 rfl rfl (by kernel_rfl) (HBv4.out.cell 0)) ?_;simp only [zz]
    refine wpList_op rfl fun K9 HK9 => ?_
    go_wp2_with fail
    refine (kind_walk o.kd HOK.out.kd).mono ?_
    rintro e w4 ⟨rfl, rfl⟩
    refine HK9.out _ _ ?_
    clear HK9
    try simp only [zz]
    rw [← HKK.out]
    go_upto_region 12 with fail
    refine wp_region_lit ?_
    refine nR (.bool (decide (kk = 0))) (ix_eql rfl rfl rfl rfl) ?_;simp only [zz];refine nR (.bool (decide (kk = 0))) (gx_assign rfl rfl) ?_;simp only [zz]
    go_upto_if 57 with fail
    go_cut [57] from 58 to 62 (fun kv wx => kv = .bool (decide (kk ≤ 4)) ∧ w4 = wx)
    case first =>
      by_cases h0 : kk = 0
      · rw [decide_eq_true h0]
        go_wp2_with fail
        go_meet
        exact ⟨by rw [decide_eq_true (by omega)], rfl⟩
      · rw [decide_eq_false h0]
        go_upto_region 13 with fail
        refine wp_region_lit ?_
        refine nR (.bool (decide (kk = 1))) (ix_eql rfl rfl rfl rfl) ?_;simp only [zz];refine nR (.bool (decide (kk = 1))) (gx_assign rfl rfl) ?_;simp only [zz]
        by_cases h1 : kk = 1
        · rw [decide_eq_true h1]
          go_wp2_with fail
          go_meet
          exact ⟨by rw [decide_eq_true (by omega)], rfl⟩
        · rw [decide_eq_false h1]
          go_upto_region 14 with fail
          refine wp_region_lit ?_
          refine nR (.bool (decide (kk = 2))) (ix_eql rfl rfl rfl rfl) ?_;simp only [zz];refine nR (.bool (decide (kk = 2))) (gx_assign rfl rfl) ?_;simp only [zz]
          by_cases h2 : kk = 2
          · rw [decide_eq_true h2]
            go_wp2_with fail
            go_meet
            exact ⟨by rw [decide_eq_true (by omega)], rfl⟩
          · rw [decide_eq_false h2]
            go_upto_region 15 with fail
            refine wp_region_lit ?_
            refine nR (.bool (decide (kk = 3))) (ix_eql rfl rfl rfl rfl) ?_;simp only [zz];refine nR (.bool (decide (kk = 3))) (gx_assign rfl rfl) ?_;simp only [zz]
            by_cases h3 : kk = 3
            · rw [decide_eq_true h3]
              go_wp2_with fail
              go_meet
              exact ⟨by rw [decide_eq_true (by omega)], rfl⟩
            · rw [decide_eq_false h3]
              go_upto_region 16 with fail
              refine wp_region_lit ?_
              refine nR (.bool (decide (kk = 4))) (ix_eql rfl rfl rfl rfl) ?_;simp only [zz];refine nR (.bool (decide (kk = 4))) (gx_assign rfl rfl) ?_;simp only [zz]
              by_cases h4 : kk = 4
              · rw [decide_eq_true h4]
                go_wp2_with fail
                go_meet
                exact ⟨by rw [decide_eq_true (by omega)], rfl⟩
              · rw [decide_eq_false h4]
                go_wp2_with fail
                go_meet
                exact ⟨by rw [decide_eq_false (by omega)], rfl⟩
    obtain ⟨rfl, hw⟩ := hcut
    subst hw
    by_cases h4 : kk ≤ 4
    · as_aux_lemma =>
        rw [decide_eq_true h4]
        clear h4
        go_upto_region 17 with fail
        refine wp_region_lit ?_
        refine wpList_run (v := .slice (some ⟨w4.heap.size, 0, none⟩) 0 0) (w' := w4.alloc (.cells #[] 38)) (wanted_none rfl) (bx_slice0 rfl (build0_LS _)) ?_;simp only [zz];refine nR (.slice (some ⟨w4.heap.size, 0, none⟩) 0 0) (gx_assign rfl rfl) ?_;simp only [zz]
        have how := OwnR.nil9 w4 o.L.l
        have ht0 := (Turn.refl nowhere w4).alloc (.cells #[] 38)
        generalize w4.alloc (.cells #[] 38) = w5 at *
        have HOW := Lib.hid how
        have HT0 := Lib.hid ht0
        have HNL := Lib.hid HOK.out.L.1
        have ynl : (o.L.n : Int) ≤ 1048576 := by have := HOK.out.L.2.1; omega
        clear how ht0
        go_upto_region 18 with fail
        refine wp_region_lit ?_
        refine nR (.int .i64 0) (gx_assign rfl rfl) ?_;simp only [zz]
        obtain ⟨sv, hsv⟩ : ∃ z, z = Value.slice (some ⟨w4.heap.size, 0, none⟩) 0 0 := ⟨_, rfl⟩
        rw [← hsv] at HOW ⊢
        clear hsv
        go_wp2_with fail
        go_loopg [11, 12] o.L.n (fun gk2 ov iv2 wr2 => ∃ q : Nat, iv2 = .int .i64 (q : Int) ∧ q + gk2 = o.L.n ∧ OwnR wr2 w4.heap.size ov o.L.l q ∧ Turn nowhere w4 wr2)
        case atStart => exact ⟨0, rfl, by omega, HOW.out, HT0.out⟩
        clear HOW HT0
        obtain ⟨q, rfl, hgq, how, htr2⟩ := hrel
        obtain ⟨wr2, hwz⟩ : ∃ z, z = wr := ⟨_, rfl⟩
        subst hwz
        obtain ⟨A5, c5, e5⟩ := how.form
        subst e5
        have HGQ := Lib.hid hgq
        have HOW := Lib.hid how
        have HTR2 := Lib.hid htr2
        have HBr := Lib.hid (HBv4.out.turn htr2 fun e => e)
        have yq : q ≤ o.L.n := by omega
        clear hgq how htr2
        by_cases hlq : q < o.L.n
        · have HLQ := Lib.hid hlq
          have y3 : (q : Int) < (o.L.n : Int) := by omega
          obtain ⟨x8, hx⟩ : ∃ x8, o.L.l[q]? = some x8 := ⟨o.L.l[q]'(by rw [HNL.out]; exact hlq), List.getElem?_eq_getElem (by rw [HNL.out]; exact hlq)⟩
          obtain ⟨g1, o1, a1, m1, q1, hA1, hc1, hb1, hn1, hm1⟩ := ls_at ((HOK.out.L.still HT4.out).still HTR2.out) hx
          obtain ⟨A2, c2, w6, hr2, how2, ht2⟩ := copy_own (W0 := w4) (ty := 38) (c := q1) hb1 hm1 hn1 HTR2.out.size
          have HTR3 := Lib.hid (HTR2.out.trans ht2 fun _ _ e => e)
          obtain ⟨A3, c3, w7, hr3, how3, ht3⟩ := own_next (W0 := w4) (ty := 33) (HOW.out.still ht2) HTR3.out hx (by omega) how2
          have HC1 := Lib.hid (show (wr2.alloc (.cells #[] 5)).cell? ⟨g1, o1 + q * 1, none⟩ = some (.slice a1 m1 q1) from by
            rw [((Turn.refl nowhere wr2).alloc (.cells #[] 5)).cell (World.block_lt_of_cell? _ _ hc1) (fun e => e)]
            exact hc1)
          have HBra := Lib.hid (HBr.out.turn ((Turn.refl nowhere wr2).alloc (.cells #[] 5)) fun e => e)
          have HA1 := Lib.hid hA1
          have HR2 := Lib.hid hr2
          have HR3 := Lib.hid hr3
          have HOW3 := Lib.hid how3
          have HTR4 := Lib.hid ht3
          clear hlq hc1 hb1 hn1 hm1 hr2 how2 ht2 hr3 how3 ht3 hx hA1
          go_upto_region 19 with fail
          refine wp_region_lit ?_
          refine nR (.int .i64 (q : Int)) (exec_move rfl rfl) ?_;simp only [zz];refine nR (.pointer (some ⟨v, 2, none⟩)) (exec_field (off := 0) (d := 2) rfl rfl (by kernel_rfl)) ?_;simp only [zz];refine nR (.slice o.L.A o.L.n o.L.c) (exec_load1 rfl rfl (by kernel_rfl) (HBr.out.cell 2)) ?_;simp only [zz];refine nR (.int .i64 (o.L.n : Int)) (gx_len rfl rfl Tryd.underlying33) ?_;simp only [zz];refine nR (.bool true) (ix_lss rfl rfl rfl (decide_eq_true y3)) ?_;simp only [zz]
          go_upto_region 21 with fail
          refine wp_region_lit ?_
          refine nR (.slice A5 q c5) (exec_move rfl rfl) ?_;simp only [zz];refine wpList_run (v := .slice (some ⟨wr2.heap.size, 0, none⟩) 0 0) (w' := wr2.alloc (.cells #[] 5)) (wanted_none rfl) (bx_slice0 rfl (build0_U8 _)) ?_;simp only [zz];refine nR (.pointer (some ⟨v, 2, none⟩)) (exec_field (off := 0) (d := 2) rfl rfl (by kernel_rfl)) ?_;simp only [zz];refine nR (.slice (some ⟨g1, o1, none⟩) o.L.n o.L.c) (exec_load1 rfl rfl (by kernel_rfl) ((HBra.out.cell 2).trans (by rw [← HA1.out]; rfl))) ?_;simp only [zz];refine nR (.int .i64 (q : Int)) (exec_move rfl rfl) ?_;simp only [zz];refine nR (.pointer (some ⟨g1, o1 + q * 1, none⟩)) (gx_iaddr (i := q) (sz := 1) rfl rfl rfl Tryd.underlying33 size_T8 HLQ.out rfl) ?_;simp only [zz];refine nR (.slice a1 m1 q1) (exec_load1 rfl rfl (by kernel_rfl) HC1.out) ?_;simp only [zz];refine wpList_run (v := .slice A2 m1 c2) (w' := w6) (wanted_none rfl) (exec_append rfl rfl rfl HR2.out) ?_;simp only [zz];refine wpList_run (v := .slice (some ⟨w6.heap.size, 0, none⟩) 1 1) (w' := w6.alloc (.cells #[.slice A2 m1 c2] 38)) (wanted_none rfl) (exec_buildSlice1 rfl rfl (build_one elmT8 (one1 (.slice A2 m1 c2)) rfl (by decide) _ rfl _)) ?_;simp only [zz];refine wpList_run (v := .slice A3 (q + 1) c3) (w' := w7) (wanted_none rfl) (exec_append rfl rfl rfl HR3.out) ?_;simp only [zz];refine nR (.slice A3 (q + 1) c3) (gx_assign rfl rfl) ?_;simp only [zz]
          go_upto_region 20 with fail
          refine wp_region_lit ?_
          refine nR (.int .i64 (q : Int)) (exec_move rfl rfl) ?_;simp only [zz];refine nR (.int .i64 ((q + 1 : Nat) : Int)) (ix_add rfl rfl rfl (by omega) (by omega)) ?_;simp only [zz];refine nR (.int .i64 ((q + 1 : Nat) : Int)) (gx_assign rfl rfl) ?_;simp only [zz]
          go_wp2_with fail
          go_roundg (o.L.n - (q + 1))
          case measure => have := HGQ.out; have := HLQ.out; omega
          case rel => exact ⟨q + 1, rfl, by have := HLQ.out; omega, HOW3.out, HTR4.out⟩
        · as_aux_lemma =>
            obtain rfl : q = o.L.n := by omega
            have y3 : ¬ (o.L.n : Int) < (o.L.n : Int) := by omega
            clear hlq
            go_upto_region 19 with fail
            refine wp_region_lit ?_
            refine nR (.int .i64 (o.L.n : Int)) (exec_move rfl rfl) ?_;simp only [zz];refine nR (.pointer (some ⟨v, 2, none⟩)) (exec_field (off := 0) (d := 2) rfl rfl (by kernel_rfl)) ?_;simp only [zz];refine nR (.slice o.L.A o.L.n o.L.c) (exec_load1 rfl rfl (by kernel_rfl) (HBr.out.cell 2)) ?_;simp only [zz];refine nR (.int .i64 (o.L.n : Int)) (gx_len rfl rfl Tryd.underlying33) ?_;simp only [zz];refine nR (.bool false) (ix_lss rfl rfl rfl (decide_eq_false y3)) ?_;simp only [zz]
            obtain ⟨nL, hnL⟩ : ∃ z, z = o.L.n := ⟨_, rfl⟩
            have hls9 : Ls wr2 A5 o.L.n o.L.l := by
              have h1 := HOW.out
              rw [← HNL.out] at h1
              obtain ⟨A9, c9, e9, h2, _⟩ := (h1.lsz (by rw [HNL.out]; omega)).ls
              injection e9 with e1 e2 e3
              subst e1
              rwa [HNL.out] at h2
            have how9 : OwW wr2 w4.heap.size wr2.heap.size (.slice A5 o.L.n c5) o.L.n := by
              have h1 := HOW.out
              rw [← HNL.out] at h1
              have h2 := h1.oww
              rwa [HNL.out] at h2
            rw [← hnL] at hls9 how9 ⊢
            have HNN := Lib.hid hnL
            have ynn : nL ≤ 1048576 := by omega
            have HLS := Lib.hid hls9
            have HWW := Lib.hid how9
            have HT24 := Lib.hid (HT34.out.trans HTR2.out fun _ _ e => e)
            have HT5 := Lib.hid (HT4.out.trans HTR2.out fun _ _ e => e)
            have HSO := Lib.hid (HST.out.so (by exact fun _ _ _ => Rp.still) HT24.out)
            have HZ1 := Lib.hid (show wa.heap.size ≤ w4.heap.size ∧ w4.heap.size ≤ wr2.heap.size ∧ w.heap.size ≤ wa.heap.size from ⟨HT34.out.size, HTR2.out.size, HTR.out.size⟩)
            clear hls9 how9 hnL HOW HST HTR2 HTR HBv4
            go_upto_region 22 with fail
            refine wp_region_lit ?_
            refine nR (.pointer (some ⟨x, 0, none⟩)) (exec_move rfl rfl) ?_;simp only [zz];refine nR (.slice A5 nL c5) (exec_move rfl rfl) ?_;simp only [zz]
            refine wpList_op rfl fun K9 HK9 => ?_
            go_wp2_with fail
            refine (HSO.out.appendA (cap := c5) HT5.out (by omega) (by omega) HLS.out).mono ?_
            rintro e w8 ⟨ht, htx, nv, ev, LQ, rfl, hap, hcs⟩
            refine HK9.out _ _ ?_
            clear HK9
            try simp only [zz]
            have HAP := Lib.hid hap
            have HT8 := Lib.hid ht
            have HC8 := Lib.hid hcs
            have HB8 := Lib.hid (HBr.out.turn htx (fun e => by
              have e : v < wa.heap.size ∨ wr2.heap.size ≤ v := e
              have := HLv.out
              have := HVS.out
              have := HZ1.out
              omega))
            have HW8 := Lib.hid (HWW.out.turn htx fun k h1 h2 e => by
              have e : k < wa.heap.size ∨ wr2.heap.size ≤ k := e
              have := HZ1.out
              omega)
            clear hap ht hcs htx HSO HBr HWW HLS
            refine nR (.tuple #[.int .i64 nv, .int .i64 ev]) (exec_move rfl rfl) ?_;simp only [zz];refine nR (.int .i64 nv) (ix_extract rfl rfl rfl) ?_;simp only [zz];refine nR (.int .i64 ev) (ix_extract rfl rfl rfl) ?_;simp only [zz];refine nR (.int .i64 nv) (gx_assign rfl rfl) ?_;simp only [zz];refine nR (.int .i64 ev) (gx_assign rfl rfl) ?_;simp only [zz]
            go_upto_region 23 with fail
            refine wp_region_lit ?_
            refine nR (.int .i64 0) (gx_assign rfl rfl) ?_;simp only [zz]
            go_wp2_with fail
            go_loopg [15] nL (fun gk3 iv3 wr3 => ∃ j : Nat, iv3 = .int .i64 (j : Int) ∧ j + gk3 = nL ∧ Turn nowhere w wr3 ∧ OwW wr3 w4.heap.size wr2.heap.size (.slice A5 nL c5) nL ∧ Cso wa.heap.size wr2.heap.size w wr3 (2 * i + 1) [(b, f, L)] (Rp p x S n f (2 * i + 1) LQ) ∧ Blk wr3 v 36 o.cells.toArray)
            case atStart => exact ⟨0, rfl, by omega, HT8.out, HW8.out, HC8.out, HB8.out⟩
            clear HT8 HW8 HC8 HB8
            obtain ⟨j, rfl, hgj, ht, hw, hc, hb⟩ := hrel
            obtain ⟨wr3, hwz⟩ : ∃ z, z = wr := ⟨_, rfl⟩
            subst hwz
            have HGJ := Lib.hid hgj
            have HT9 := Lib.hid ht
            have HW9 := Lib.hid hw
            have HC9 := Lib.hid hc
            have HB9 := Lib.hid hb
            have yj : j ≤ nL := by omega
            clear hgj ht hw hc hb
            by_cases hlj : j < nL
            · have HLJ := Lib.hid hlj
              have y4 : (j : Int) < (nL : Int) := by omega
              obtain ⟨g, A2, m2, c2, rfl, hcell, hm2, _⟩ := HW9.out.at_ hlj
              have HCE := Lib.hid (show wr3.cell? ⟨g, j, none⟩ = some (.slice A2 m2 c2) from hcell)
              have ym2 : m2 ≤ 1048576 := hm2
              clear hlj hcell hm2
              go_upto_region 24 with fail
              refine wp_region_lit ?_
              refine nR (.int .i64 (j : Int)) (exec_move rfl rfl) ?_;simp only [zz];refine nR (.slice (some ⟨g, 0, none⟩) nL c5) (exec_move rfl rfl) ?_;simp only [zz];refine nR (.int .i64 (nL : Int)) (gx_len rfl rfl Tryd.underlying33) ?_;simp only [zz];refine nR (.bool true) (ix_lss rfl rfl rfl (decide_eq_true y4)) ?_;simp only [zz]
              go_upto_region 26 with fail
              refine wp_region_lit ?_
              refine nR (.int .i64 0) (gx_assign rfl rfl) ?_;simp only [zz]
              go_wp2_with fail
              go_loopg [16] m2 (fun gk4 iv4 wr4 => ∃ t : Nat, iv4 = .int .i64 (t : Int) ∧ t + gk4 = m2 ∧ Turn nowhere w wr4 ∧ OwW wr4 w4.heap.size wr2.heap.size (.slice (some ⟨g, 0, none⟩) nL c5) nL ∧ Cso wa.heap.size wr2.heap.size w wr4 (2 * i + 1) [(b, f, L)] (Rp p x S n f (2 * i + 1) LQ) ∧ Blk wr4 v 36 o.cells.toArray ∧ wr4.cell? ⟨g, j, none⟩ = some (.slice A2 m2 c2))
              case atStart => exact ⟨0, rfl, by omega, HT9.out, HW9.out, HC9.out, HB9.out, HCE.out⟩
              clear HT9 HW9 HC9 HB9 HCE
              obtain ⟨t, rfl, hgt, ht, hw, hc, hb, hce⟩ := hrel
              obtain ⟨wr4, hwz⟩ : ∃ z, z = wr := ⟨_, rfl⟩
              subst hwz
              have HGT := Lib.hid hgt
              have HT10 := Lib.hid ht
              have HW10 := Lib.hid hw
              have HC10 := Lib.hid hc
              have HB10 := Lib.hid hb
              have HCE := Lib.hid hce
              have HCE2 := Lib.hid (show wr4.cell? ⟨g, 0 + j * 1, none⟩ = some (.slice A2 m2 c2) from by rw [show 0 + j * 1 = j from by omega]; exact hce)
              have yt : t ≤ m2 := by omega
              clear hgt ht hw hc hb hce
              by_cases hlt2 : t < m2
              · have HLT2 := Lib.hid hlt2
                have y5 : (t : Int) < (m2 : Int) := by omega
                obtain ⟨g', A2', m2', c2', e1, hce, _, hput⟩ := HW10.out.at_ HLJ.out
                injection e1 with e1
                injection e1 with e1
                subst e1
                rw [HCE.out] at hce
                injection hce with hce
                injection hce with e1 e2 e3
                subst e1 e2 e3
                obtain ⟨g2, cur, rfl, hB2, hE2, hbg, hsz, hset⟩ := hput t hlt2
                have HB2 := Lib.hid hB2
                have HE2 := Lib.hid hE2
                have HBG := Lib.hid hbg
                have HSZ := Lib.hid hsz
                have HSET := Lib.hid hset
                clear hlt2 hput hB2 hE2 hbg hsz hset
                go_upto_region 27 with fail
                refine wp_region_lit ?_
                refine nR (.int .i64 (t : Int)) (exec_move rfl rfl) ?_;simp only [zz];refine nR (.slice (some ⟨g, 0, none⟩) nL c5) (exec_move rfl rfl) ?_;simp only [zz];refine nR (.int .i64 (j : Int)) (exec_move rfl rfl) ?_;simp only [zz];refine nR (.pointer (some ⟨g, 0 + j * 1, none⟩)) (gx_iaddr (i := j) (sz := 1) rfl rfl rfl Tryd.underlying33 size_T8 HLJ.out rfl) ?_;simp only [zz];refine nR (.slice (some ⟨g2, 0, none⟩) m2 c2) (exec_load1 rfl rfl (by kernel_rfl) HCE2.out) ?_;simp only [zz];refine nR (.int .i64 (m2 : Int)) (gx_len rfl rfl Tryd.underlying38) ?_;simp only [zz];refine nR (.bool true) (ix_lss rfl rfl rfl (decide_eq_true y5)) ?_;simp only [zz]
                go_upto_region 29 with fail
                refine wp_region_lit ?_
                refine nR (.slice (some ⟨g, 0, none⟩) nL c5) (exec_move rfl rfl) ?_;simp only [zz];refine nR (.int .i64 (j : Int)) (exec_move rfl rfl) ?_;simp only [zz];refine nR (.pointer (some ⟨g, 0 + j * 1, none⟩)) (gx_iaddr (i := j) (sz := 1) rfl rfl rfl Tryd.underlying33 size_T8 HLJ.out rfl) ?_;simp only [zz];refine nR (.slice (some ⟨g2, 0, none⟩) m2 c2) (exec_load1 rfl rfl (by kernel_rfl) HCE2.out) ?_;simp only [zz];refine nR (.int .i64 (t : Int)) (exec_move rfl rfl) ?_;simp only [zz];refine nR (.pointer (some ⟨g2, 0 + t * 1, none⟩)) (gx_iaddr (i := t) (sz := 1) rfl rfl rfl Tryd.underlying38 size_u8 HLT2.out rfl) ?_;simp only [zz]
                refine wpList_storeU (0 + t * 1) (.int .u8 99) (wanted_none rfl) 5 _ _ rfl HBG.out rfl rfl (by have := HSZ.out; omega) ⟨rfl, rfl⟩ size_u8 ?_
                intro w11 hb11 ht11
                simp only [zz]
                rw [show 0 + t * 1 = t from by omega] at hb11
                have hs11 := HSET.out w11 (.int .u8 99) rfl ht11 hb11
                have HW11 := Lib.hid hs11.1
                have HCE11 := Lib.hid hs11.2
                have hcw := HC10.out.write HT10.out HTAB.out HZ1.out.2.2 (ht11.mono fun k _ e => by
                  have e : k = g2 := e
                  have := HB2.out
                  have := HE2.out
                  have := HZ1.out
                  omega)
                have HT11 := Lib.hid hcw.1
                have HC11 := Lib.hid hcw.2
                have HB11 := Lib.hid (HB10.out.turn ht11 fun e => (show ¬ v = g2 from HB10.out.ne_ HBG.out (by decide)) e)
                clear hb11 ht11 hs11 hcw
                go_upto_region 28 with fail
                refine wp_region_lit ?_
                refine nR (.int .i64 (t : Int)) (exec_move rfl rfl) ?_;simp only [zz];refine nR (.int .i64 ((t + 1 : Nat) : Int)) (ix_add rfl rfl rfl (by omega) (by omega)) ?_;simp only [zz];refine nR (.int .i64 ((t + 1 : Nat) : Int)) (gx_assign rfl rfl) ?_;simp only [zz]
                go_wp2_with fail
                go_roundg (m2 - (t + 1))
                case measure => have := HGT.out; have := HLT2.out; omega
                case rel => exact ⟨t + 1, rfl, by have := HLT2.out; omega, HT11.out, HW11.out, HC11.out, HB11.out, HCE11.out⟩
              · have y5 : ¬ (t : Int) < (m2 : Int) := by omega
                clear hlt2
                go_upto_region 27 with fail
                refine wp_region_lit ?_
                refine nR (.int .i64 (t : Int)) (exec_move rfl rfl) ?_;simp only [zz];refine nR (.slice (some ⟨g, 0, none⟩) nL c5) (exec_move rfl rfl) ?_;simp only [zz];refine nR (.int .i64 (j : Int)) (exec_move rfl rfl) ?_;simp only [zz];refine nR (.pointer (some ⟨g, 0 + j * 1, none⟩)) (gx_iaddr (i := j) (sz := 1) rfl rfl rfl Tryd.underlying33 size_T8 HLJ.out rfl) ?_;simp only [zz];refine nR (.slice A2 m2 c2) (exec_load1 rfl rfl (by kernel_rfl) HCE2.out) ?_;simp only [zz];refine nR (.int .i64 (m2 : Int)) (gx_len rfl rfl Tryd.underlying38) ?_;simp only [zz];refine nR (.bool false) (ix_lss rfl rfl rfl (decide_eq_false y5)) ?_;simp only [zz]
                go_upto_region 25 with fail
                refine wp_region_lit ?_
                refine nR (.int .i64 (j : Int)) (exec_move rfl rfl) ?_;simp only [zz];refine nR (.int .i64 ((j + 1 : Nat) : Int)) (ix_add rfl rfl rfl (by omega) (by omega)) ?_;simp only [zz];refine nR (.int .i64 ((j + 1 : Nat) : Int)) (gx_assign rfl rfl) ?_;simp only [zz]
                go_wp2_with fail
                go_roundg (nL - (j + 1))
                case measure => have := HGJ.out; have := HLJ.out; omega
                case rel => exact ⟨j + 1, rfl, by have := HLJ.out; omega, HT10.out, HW10.out, HC10.out, HB10.out⟩
            · as_aux_lemma =>
                have y4 : ¬ (j : Int) < (nL : Int) := by omega
                clear hlj
                go_upto_region 24 with fail
                refine wp_region_lit ?_
                refine nR (.int .i64 (j : Int)) (exec_move rfl rfl) ?_;simp only [zz];refine nR (.slice A5 nL c5) (exec_move rfl rfl) ?_;simp only [zz];refine nR (.int .i64 (nL : Int)) (gx_len rfl rfl Tryd.underlying33) ?_;simp only [zz];refine nR (.bool false) (ix_lss rfl rfl rfl (decide_eq_false y4)) ?_;simp only [zz]
                go_upto_region 30 with fail
                refine wp_region_lit ?_
                refine nR (.pointer (some ⟨v, 2, none⟩)) (exec_field (off := 0) (d := 2) rfl rfl (by kernel_rfl)) ?_;simp only [zz];refine nR (.slice o.L.A o.L.n o.L.c) (exec_load1 rfl rfl (by kernel_rfl) (HB9.out.cell 2)) ?_;simp only [zz]
                refine wpList_op rfl fun K9 HK9 => ?_
                go_wp2_with fail
                refine (long_walk (c := o.L.c) (HOK.out.L.still HT9.out)).mono ?_
                rintro e wr3 ⟨rfl, rfl⟩
                refine HK9.out _ _ ?_
                clear HK9
                try simp only [zz]
                rcases HAP.out with ⟨hlo, rfl, rfl, hLQ⟩ | ⟨hlo, rfl, rfl, rfl⟩ | ⟨hlo, hnf, rfl, rfl, hLQ⟩
                · as_aux_lemma =>
                    obtain rfl : L = LQ := hLQ.symm
                    rw [decide_eq_true hlo]
                    clear hlo
                    go_upto_region 31 with fail
                    refine wp_region_lit ?_
                    refine nR (.int .i64 5) (exec_move rfl rfl) ?_;simp only [zz];refine nR (.bool false) (ix_neq rfl rfl rfl (by decide)) ?_;simp only [zz];refine nR (.bool false) (exec_move rfl rfl) ?_;simp only [zz];refine wpList_run (v := .int .i64 0) rfl (exec_move rfl rfl) ?_;simp only [zz];refine wpList_run (v := .bool false) rfl (ix_neq rfl rfl rfl (by decide)) ?_;simp only [zz];refine nR (.bool false) (ix_pickF rfl rfl rfl) ?_;simp only [zz]
                    have HCZ := Lib.hid (show Cs w _ (2 * (i + 1)) [(b, f, L)] (Rp p x S n f (2 * (i + 1)) L) from (HC9.out.cs).imp (fun G hR => hR.up (by omega)) (by omega))
                    have HLLZ := Lib.hid (show ∀ l ∈ L, ¬ Wl.long l from HLL.out)
                    obtain ⟨fZ, hfZ⟩ : ∃ z, z = f := ⟨_, rfl⟩
                    obtain ⟨LZ, hLZ⟩ : ∃ z, z = L := ⟨_, rfl⟩
                    rw [← hfZ, ← hLZ] at HCZ
                    rw [← hLZ] at HLLZ
                    clear hfZ hLZ
                    obtain ⟨AZ, cZ, ZZ, hbZ, _⟩ := HCZ.out.bookat (List.mem_singleton.2 rfl)
                    obtain ⟨nZ, hnZ⟩ : ∃ z, z = LZ.length := ⟨_, rfl⟩
                    rw [← hnZ] at hbZ
                    have HNZ := Lib.hid hnZ
                    have HBZ := Lib.hid hbZ
                    have yfZ : fZ + nZ ≤ 2 * (i + 1) := by rw [hnZ]; exact HCZ.out.rn.size
                    have HTZ := Lib.hid (HT9.out)
                    have yim : i < m := HLM.out
                    clear hbZ hnZ
                    go_upto_region 50 with fail
                    refine wp_region_alw (fun W => Turn nowhere wr3 W) (by kernel_rfl) ?_
                    have hS0 := (Turn.refl nowhere wr3).drew
                    generalize wr3.drew = wd at *
                    refine alw_take (i := 0) (v := .pointer (some ⟨x, 0, none⟩)) rfl (by kernel_rfl) (by kernel_rfl) (fun _ _ _ h => h) (.inl ⟨by rfl, fun W hW => exec_move rfl rfl⟩) hS0 ?_
                    simp only [zz]
                    refine alw_take (i := 2) (v := .pointer (some ⟨b, 0, none⟩)) rfl (by kernel_rfl) (by kernel_rfl) (fun _ _ _ h => h) (.inl ⟨by rfl, fun W hW => exec_move rfl rfl⟩) hS0 ?_
                    simp only [zz]
                    refine alw_take (i := 3) (v := .pointer (some ⟨b, 0, none⟩)) rfl (by kernel_rfl) (by kernel_rfl) (fun _ _ _ h => h) (.inl ⟨by rfl, fun W hW => exec_nil rfl rfl⟩) hS0 ?_
                    simp only [zz]
                    refine alw_take (i := 4) (v := .pointer (some ⟨b, 0, none⟩)) rfl (by kernel_rfl) (by kernel_rfl) (fun _ _ _ h => h) (.inl ⟨by rfl, fun W hW => exec_field (off := 0) (d := 0) rfl rfl (by kernel_rfl)⟩) hS0 ?_
                    simp only [zz]
                    refine alw_take (i := 5) (v := .int .i64 (fZ : Int)) rfl (by kernel_rfl) (by kernel_rfl) (fun _ _ _ h => h) (.inl ⟨by rfl, fun W hW => exec_load1 rfl rfl (by kernel_rfl) ((HBZ.out.turn hW fun e => e).cell 0)⟩) hS0 ?_
                    simp only [zz]
                    refine alw_step (i := 1) (by kernel_rfl) rfl rfl ?_
                    intro K1 HK1
                    go_wp2_with fail
                    refine ((HCZ.out.still (by exact fun _ _ _ => Rp.still) hS0).firstP).mono ?_
                    rintro e wd ⟨rfl, rfl⟩

                    refine HK1.out _ _ ⟨hS0, ?_⟩
                    clear HK1
                    try simp only [zz]
                    refine alw_take (i := 6) (v := .bool false) rfl (by kernel_rfl) (by kernel_rfl) (fun _ _ _ h => h) (.inl ⟨by rfl, fun W hW => ix_neq rfl rfl rfl (decide_eq_false (fun e => e rfl))⟩) hS0 ?_
                    simp only [zz]
                    refine alw_take (i := 7) (v := .bool false) rfl (by kernel_rfl) (by kernel_rfl) (fun _ _ _ h => h) (.inl ⟨by rfl, fun W hW => exec_move rfl rfl⟩) hS0 ?_
                    simp only [zz]
                    refine alw_take (i := 8) (v := .pointer (some ⟨x, 0, none⟩)) rfl (by kernel_rfl) (by kernel_rfl) (fun _ _ _ h => h) (.inl ⟨by rfl, fun W hW => exec_move rfl rfl⟩) hS0 ?_
                    simp only [zz]
                    refine alw_take (i := 10) (v := .pointer (some ⟨b, 0, none⟩)) rfl (by kernel_rfl) (by kernel_rfl) (fun _ _ _ h => h) (.inl ⟨by rfl, fun W hW => exec_move rfl rfl⟩) hS0 ?_
                    simp only [zz]
                    refine alw_step (i := 9) (by kernel_rfl) rfl rfl ?_
                    intro K1 HK1
                    go_wp2_with fail
                    refine ((HCZ.out.still (by exact fun _ _ _ => Rp.still) hS0).nextP (by omega)).mono ?_
                    rintro e we ⟨rfl, ht⟩
                    have hS1 := hS0.trans ht fun _ _ e => e
                    clear ht
                    refine HK1.out _ _ ⟨hS1, ?_⟩
                    clear HK1
                    try simp only [zz]
                    refine alw_step (i := 11) (by kernel_rfl) rfl rfl ?_
                    intro K1 HK1
                    go_wp2_with fail
                    refine ((HCZ.out.still (by exact fun _ _ _ => Rp.still) hS1).bnext (by omega) (List.mem_singleton.2 rfl)).mono ?_
                    rintro e wf ⟨rfl, ht⟩
                    have hS2 := hS1.trans ht fun _ _ e => e
                    clear ht
                    refine HK1.out _ _ ⟨hS2, ?_⟩
                    clear HK1
                    try simp only [zz]
                    rw [← HNZ.out]
                    clear hS0 hS1
                    have hS0 := hS2
                    clear hS2
                    refine alw_take (i := 12) (v := .bool false) rfl (by kernel_rfl) (by kernel_rfl) (fun _ _ _ h => h) (.inl ⟨by rfl, fun W hW => ix_neq rfl rfl rfl (decide_eq_false (fun e => e rfl))⟩) hS0 ?_
                    simp only [zz]
                    refine alw_take (i := 13) (v := .bool false) rfl (by kernel_rfl) (by kernel_rfl) (fun _ _ _ h => h) (.inl ⟨by rfl, fun W hW => ix_pickF rfl rfl rfl⟩) hS0 ?_
                    simp only [zz]
                    refine alw_take (i := 14) (v := .bool false) rfl (by kernel_rfl) (by kernel_rfl) (fun _ _ _ h => h) (.inl ⟨by rfl, fun W hW => exec_move rfl rfl⟩) hS0 ?_
                    simp only [zz]
                    refine alw_take (i := 15) (v := .pointer (some ⟨x, 0, none⟩)) rfl (by kernel_rfl) (by kernel_rfl) (fun _ _ _ h => h) (.inl ⟨by rfl, fun W hW => exec_move rfl rfl⟩) hS0 ?_
                    simp only [zz]
                    refine alw_step (i := 16) (by kernel_rfl) rfl rfl ?_
                    intro K1 HK1
                    go_wp2_with fail
                    refine ((HCZ.out.still (by exact fun _ _ _ => Rp.still) hS0).roomP).mono ?_
                    rintro e wf ⟨k1, hk1, rfl, rfl⟩

                    refine HK1.out _ _ ⟨hS0, ?_⟩
                    clear HK1
                    try simp only [zz]
                    refine alw_take (i := 17) (v := .bool false) rfl (by kernel_rfl) (by kernel_rfl) (fun _ _ _ h => h) (.inl ⟨by rfl, fun W hW => ix_lss rfl rfl rfl (decide_eq_false (by omega))⟩) hS0 ?_
                    simp only [zz]
                    refine alw_take (i := 18) (v := .bool false) rfl (by kernel_rfl) (by kernel_rfl) (fun _ _ _ h => h) (.inl ⟨by rfl, fun W hW => ix_pickF rfl rfl rfl⟩) hS0 ?_
                    simp only [zz]
                    refine alw_take (i := 19) (v := .bool false) rfl (by kernel_rfl) (by kernel_rfl) (fun _ _ _ h => h) (.inl ⟨by rfl, fun W hW => exec_move rfl rfl⟩) hS0 ?_
                    simp only [zz]
                    refine alw_take (i := 20) (v := .pointer (some ⟨x, 0, none⟩)) rfl (by kernel_rfl) (by kernel_rfl) (fun _ _ _ h => h) (.inl ⟨by rfl, fun W hW => exec_move rfl rfl⟩) hS0 ?_
                    simp only [zz]
                    refine alw_take (i := 22) (v := .int .i64 (n : Int)) rfl (by kernel_rfl) (by kernel_rfl) (fun _ _ _ h => h) (.inl ⟨by rfl, fun W hW => exec_move rfl rfl⟩) hS0 ?_
                    simp only [zz]
                    refine alw_take (i := 23) (v := .int .i64 ((n - 2 : Nat) : Int)) rfl (by kernel_rfl) (by kernel_rfl) (fun _ _ _ h => h) (.inl ⟨by rfl, fun W hW => ix_sub rfl rfl rfl (by omega) (by omega)⟩) hS0 ?_
                    simp only [zz]
                    refine alw_take (i := 24) (v := .int .i64 (S : Int)) rfl (by kernel_rfl) (by kernel_rfl) (fun _ _ _ h => h) (.inl ⟨by rfl, fun W hW => (wx_quo (m := 64) rfl rfl rfl (by decide) (by omega)).trans (by rw [HDV.out])⟩) hS0 ?_
                    simp only [zz]
                    refine alw_step (i := 21) (by kernel_rfl) rfl rfl ?_
                    intro K1 HK1
                    go_wp2_with fail
                    refine ((HCZ.out.still (by exact fun _ _ _ => Rp.still) hS0).roomP).mono ?_
                    rintro e wf ⟨k2, hk2, rfl, rfl⟩

                    refine HK1.out _ _ ⟨hS0, ?_⟩
                    clear HK1
                    try simp only [zz]
                    refine alw_take (i := 25) (v := .bool false) rfl (by kernel_rfl) (by kernel_rfl) (fun _ _ _ h => h) (.inl ⟨by rfl, fun W hW => ix_geq rfl rfl rfl (decide_eq_false (by omega))⟩) hS0 ?_
                    simp only [zz]
                    refine alw_take (i := 26) (v := .bool false) rfl (by kernel_rfl) (by kernel_rfl) (fun _ _ _ h => h) (.inl ⟨by rfl, fun W hW => ix_pickF rfl rfl rfl⟩) hS0 ?_
                    simp only [zz]
                    have HCY := Lib.hid (HCZ.out.still (by exact fun _ _ _ => Rp.still) hS0)
                    have HTY := Lib.hid (HTZ.out.trans hS0 fun _ _ e => e)
                    refine alw_done rfl ?_
                    refine NoPanic.normal ?_
                    clear hS0
                    try simp only [zz]
                    go_upto_region 9 with fail
                    refine wp_region_lit ?_
                    refine nR (.int .i64 (i : Int)) (exec_move rfl rfl) ?_;simp only [zz];refine nR (.int .i64 ((i + 1 : Nat) : Int)) (ix_add rfl rfl rfl (by omega) (by omega)) ?_;simp only [zz];refine nR (.int .i64 ((i + 1 : Nat) : Int)) (gx_assign rfl rfl) ?_;simp only [zz]
                    go_wp2_with fail
                    go_roundg (m - (i + 1))
                    case measure => have := HGK.out; have := HLM.out; omega
                    case rel => exact ⟨i + 1, b, fZ, x, LZ, rfl, rfl, rfl, by have := HLM.out; omega, HTY.out, HCY.out, HLLZ.out⟩
                · as_aux_lemma =>
                    rw [decide_eq_false hlo]
                    have HLO := Lib.hid hlo
                    clear hlo
                    have HCS := Lib.hid HC9.out.cs
                    obtain ⟨Ab, cb, Zb, hbb, hgb⟩ := HCS.out.bookat (List.mem_singleton.2 rfl)
                    have HBB := Lib.hid hbb
                    have HGB := Lib.hid hgb
                    clear hbb hgb HC9 HW9
                    go_upto_region 33 with fail
                    refine wp_region_lit ?_
                    refine nR (.pointer (some ⟨b, 0, none⟩)) (exec_move rfl rfl) ?_;simp only [zz];refine nR (.pointer (some ⟨v, 2, none⟩)) (exec_field (off := 0) (d := 2) rfl rfl (by kernel_rfl)) ?_;simp only [zz];refine nR (.slice o.L.A o.L.n o.L.c) (exec_load1 rfl rfl (by kernel_rfl) (HB9.out.cell 2)) ?_;simp only [zz];refine nR (.int .i64 (n : Int)) (exec_move rfl rfl) ?_;simp only [zz]
                    refine wpList_op rfl fun K9 HK9 => ?_
                    go_wp2_with fail
                    refine (fits_walk (c := o.L.c) HBB.out HGB.out (HOK.out.L.still HT9.out) HLO.out HLL.out (by have := HFL.out; omega) HSD.out (by omega) (by omega)).mono ?_
                    rintro e wr3 ⟨rfl, rfl⟩
                    refine HK9.out _ _ ?_
                    clear HK9
                    try simp only [zz]
                    refine nR (.bool (decide (Fits9 S o.L.l L))) (gx_assign rfl rfl) ?_;simp only [zz]
                    go_upto_region 34 with fail
                    refine wp_region_lit ?_
                    refine nR (.int .i64 0) (exec_move rfl rfl) ?_;simp only [zz];refine nR (.bool false) (ix_eql rfl rfl rfl (by decide)) ?_;simp only [zz];refine nR (.bool false) (exec_move rfl rfl) ?_;simp only [zz];refine wpList_skip (by go_simp) ?_;simp only [zz];refine nR (.bool false) (ix_pickF rfl rfl rfl) ?_;simp only [zz];refine nR (.bool false) (exec_move rfl rfl) ?_;simp only [zz];refine wpList_run (v := .int .i64 0) rfl (exec_move rfl rfl) ?_;simp only [zz];refine wpList_run (v := .bool false) rfl (ix_neq rfl rfl rfl (by decide)) ?_;simp only [zz];refine wpList_run (v := .bool false) rfl (exec_move rfl rfl) ?_;simp only [zz];refine wpList_skip (by go_simp) ?_;simp only [zz];refine wpList_skip (by go_simp) ?_;simp only [zz];refine wpList_run (v := .bool false) rfl (ix_pickF rfl rfl rfl) ?_;simp only [zz];refine nR (.bool false) (ix_pickF rfl rfl rfl) ?_;simp only [zz];refine nR (.bool false) (exec_move rfl rfl) ?_;simp only [zz];refine wpList_run (v := .int .i64 0) rfl (exec_move rfl rfl) ?_;simp only [zz];refine wpList_run (v := .bool true) rfl (ix_eql rfl rfl rfl (by decide)) ?_;simp only [zz];refine wpList_run (v := .bool true) rfl (exec_move rfl rfl) ?_;simp only [zz];refine wpList_run (v := .int .i64 ((f + L.length : Nat) : Int)) rfl (exec_move rfl rfl) ?_;simp only [zz];refine wpList_run (v := .pointer (some ⟨b, 0, none⟩)) rfl (exec_move rfl rfl) ?_;simp only [zz]
                    refine wpList_op (by go_simp) fun K9 HK9 => ?_
                    go_wp2_with fail
                    refine (HCS.out.bnext (by omega) (List.mem_singleton.2 rfl)).mono ?_
                    rintro e w12 ⟨rfl, ht⟩
                    refine HK9.out _ _ ?_
                    clear HK9
                    try simp only [zz]
                    have HC12 := Lib.hid (HCS.out.still (by exact fun _ _ _ => Rp.still) ht)
                    have HT12 := Lib.hid (HT9.out.trans ht fun _ _ e => e)
                    have HB12 := Lib.hid (HB9.out.turn ht fun e => e)
                    clear ht HCS HBB HGB HB9
                    refine wpList_run (v := .bool false) rfl (ix_neq rfl rfl rfl (decide_eq_false (fun e => e rfl))) ?_;simp only [zz];refine wpList_run (v := .bool false) rfl (ix_pickT rfl rfl rfl) ?_;simp only [zz];refine nR (.bool false) (ix_pickF rfl rfl rfl) ?_;simp only [zz]
                    go_upto_region 36 with fail
                    refine wp_region_lit ?_
                    refine nR (.int .i64 0) (exec_move rfl rfl) ?_;simp only [zz];refine nR (.bool true) (ix_eql rfl rfl rfl (by decide)) ?_;simp only [zz]
                    go_upto_region 37 with fail
                    refine wp_region_lit ?_
                    refine nR (.pointer (some ⟨b, 0, none⟩)) (exec_move rfl rfl) ?_;simp only [zz];refine nR (.pointer (some ⟨v, 2, none⟩)) (exec_field (off := 0) (d := 2) rfl rfl (by kernel_rfl)) ?_;simp only [zz];refine nR (.slice o.L.A o.L.n o.L.c) (exec_load1 rfl rfl (by kernel_rfl) (HB12.out.cell 2)) ?_;simp only [zz]
                    refine wpList_op rfl fun K9 HK9 => ?_
                    go_wp2_with fail
                    refine (HC12.out.with_ (cap := o.L.c) (by exact fun _ _ _ => Rp.still) HT12.out (List.mem_singleton.2 rfl) (by have := HFL.out; omega) (HOK.out.L.still HT12.out)).mono ?_
                    rintro e w13 ⟨ht, b7, rfl, hs⟩
                    refine HK9.out _ _ ?_
                    clear HK9
                    try simp only [zz]
                    have HT13 := Lib.hid ht
                    have HC13 := Lib.hid (hs.sub (cs := [(b7, f, L ++ [o.L.l])]) fun e he => by rw [List.mem_singleton.1 he]; exact List.mem_cons_self ..)
                    clear ht hs
                    refine nR (.pointer (some ⟨b7, 0, none⟩)) (gx_assign rfl rfl) ?_;simp only [zz]
                    have HCZ := Lib.hid (show Cs w _ (2 * (i + 1)) [(b7, f, (L ++ [o.L.l]))] (Rp p x S n f (2 * (i + 1)) (L ++ [o.L.l])) from (HC13.out).imp (fun G hR => hR.up (by omega)) (by omega))
                    have HLLZ := Lib.hid (show ∀ l ∈ (L ++ [o.L.l]), ¬ Wl.long l from fun l hl => (List.mem_append.1 hl).elim (HLL.out l) fun e => by rw [List.mem_singleton.1 e]; exact HLO.out)
                    obtain ⟨fZ, hfZ⟩ : ∃ z, z = f := ⟨_, rfl⟩
                    obtain ⟨LZ, hLZ⟩ : ∃ z, z = (L ++ [o.L.l]) := ⟨_, rfl⟩
                    rw [← hfZ, ← hLZ] at HCZ
                    rw [← hLZ] at HLLZ
                    clear hfZ hLZ
                    obtain ⟨AZ, cZ, ZZ, hbZ, _⟩ := HCZ.out.bookat (List.mem_singleton.2 rfl)
                    obtain ⟨nZ, hnZ⟩ : ∃ z, z = LZ.length := ⟨_, rfl⟩
                    rw [← hnZ] at hbZ
                    have HNZ := Lib.hid hnZ
                    have HBZ := Lib.hid hbZ
                    have yfZ : fZ + nZ ≤ 2 * (i + 1) := by rw [hnZ]; exact HCZ.out.rn.size
                    have HTZ := Lib.hid (HT13.out)
                    have yim : i < m := HLM.out
                    clear hbZ hnZ
                    go_upto_region 50 with fail
                    refine wp_region_alw (fun W => Turn nowhere w13 W) (by kernel_rfl) ?_
                    have hS0 := (Turn.refl nowhere w13).drew
                    generalize w13.drew = wd at *
                    refine alw_take (i := 0) (v := .pointer (some ⟨x, 0, none⟩)) rfl (by kernel_rfl) (by kernel_rfl) (fun _ _ _ h => h) (.inl ⟨by rfl, fun W hW => exec_move rfl rfl⟩) hS0 ?_
                    simp only [zz]
                    refine alw_take (i := 2) (v := .pointer (some ⟨b7, 0, none⟩)) rfl (by kernel_rfl) (by kernel_rfl) (fun _ _ _ h => h) (.inl ⟨by rfl, fun W hW => exec_move rfl rfl⟩) hS0 ?_
                    simp only [zz]
                    refine alw_take (i := 3) (v := .pointer (some ⟨b7, 0, none⟩)) rfl (by kernel_rfl) (by kernel_rfl) (fun _ _ _ h => h) (.inl ⟨by rfl, fun W hW => exec_nil rfl rfl⟩) hS0 ?_
                    simp only [zz]
                    refine alw_take (i := 4) (v := .pointer (some ⟨b7, 0, none⟩)) rfl (by kernel_rfl) (by kernel_rfl) (fun _ _ _ h => h) (.inl ⟨by rfl, fun W hW => exec_field (off := 0) (d := 0) rfl rfl (by kernel_rfl)⟩) hS0 ?_
                    simp only [zz]
                    refine alw_take (i := 5) (v := .int .i64 (fZ : Int)) rfl (by kernel_rfl) (by kernel_rfl) (fun _ _ _ h => h) (.inl ⟨by rfl, fun W hW => exec_load1 rfl rfl (by kernel_rfl) ((HBZ.out.turn hW fun e => e).cell 0)⟩) hS0 ?_
                    simp only [zz]
                    refine alw_step (i := 1) (by kernel_rfl) rfl rfl ?_
                    intro K1 HK1
                    go_wp2_with fail
                    refine ((HCZ.out.still (by exact fun _ _ _ => Rp.still) hS0).firstP).mono ?_
                    rintro e wd ⟨rfl, rfl⟩

                    refine HK1.out _ _ ⟨hS0, ?_⟩
                    clear HK1
                    try simp only [zz]
                    refine alw_take (i := 6) (v := .bool false) rfl (by kernel_rfl) (by kernel_rfl) (fun _ _ _ h => h) (.inl ⟨by rfl, fun W hW => ix_neq rfl rfl rfl (decide_eq_false (fun e => e rfl))⟩) hS0 ?_
                    simp only [zz]
                    refine alw_take (i := 7) (v := .bool false) rfl (by kernel_rfl) (by kernel_rfl) (fun _ _ _ h => h) (.inl ⟨by rfl, fun W hW => exec_move rfl rfl⟩) hS0 ?_
                    simp only [zz]
                    refine alw_take (i := 8) (v := .pointer (some ⟨x, 0, none⟩)) rfl (by kernel_rfl) (by kernel_rfl) (fun _ _ _ h => h) (.inl ⟨by rfl, fun W hW => exec_move rfl rfl⟩) hS0 ?_
                    simp only [zz]
                    refine alw_take (i := 10) (v := .pointer (some ⟨b7, 0, none⟩)) rfl (by kernel_rfl) (by kernel_rfl) (fun _ _ _ h => h) (.inl ⟨by rfl, fun W hW => exec_move rfl rfl⟩) hS0 ?_
                    simp only [zz]
                    refine alw_step (i := 9) (by kernel_rfl) rfl rfl ?_
                    intro K1 HK1
                    go_wp2_with fail
                    refine ((HCZ.out.still (by exact fun _ _ _ => Rp.still) hS0).nextP (by omega)).mono ?_
                    rintro e we ⟨rfl, ht⟩
                    have hS1 := hS0.trans ht fun _ _ e => e
                    clear ht
                    refine HK1.out _ _ ⟨hS1, ?_⟩
                    clear HK1
                    try simp only [zz]
                    refine alw_step (i := 11) (by kernel_rfl) rfl rfl ?_
                    intro K1 HK1
                    go_wp2_with fail
                    refine ((HCZ.out.still (by exact fun _ _ _ => Rp.still) hS1).bnext (by omega) (List.mem_singleton.2 rfl)).mono ?_
                    rintro e wf ⟨rfl, ht⟩
                    have hS2 := hS1.trans ht fun _ _ e => e
                    clear ht
                    refine HK1.out _ _ ⟨hS2, ?_⟩
                    clear HK1
                    try simp only [zz]
                    rw [← HNZ.out]
                    clear hS0 hS1
                    have hS0 := hS2
                    clear hS2
                    refine alw_take (i := 12) (v := .bool false) rfl (by kernel_rfl) (by kernel_rfl) (fun _ _ _ h => h) (.inl ⟨by rfl, fun W hW => ix_neq rfl rfl rfl (decide_eq_false (fun e => e rfl))⟩) hS0 ?_
                    simp only [zz]
                    refine alw_take (i := 13) (v := .bool false) rfl (by kernel_rfl) (by kernel_rfl) (fun _ _ _ h => h) (.inl ⟨by rfl, fun W hW => ix_pickF rfl rfl rfl⟩) hS0 ?_
                    simp only [zz]
                    refine alw_take (i := 14) (v := .bool false) rfl (by kernel_rfl) (by kernel_rfl) (fun _ _ _ h => h) (.inl ⟨by rfl, fun W hW => exec_move rfl rfl⟩) hS0 ?_
                    simp only [zz]
                    refine alw_take (i := 15) (v := .pointer (some ⟨x, 0, none⟩)) rfl (by kernel_rfl) (by kernel_rfl) (fun _ _ _ h => h) (.inl ⟨by rfl, fun W hW => exec_move rfl rfl⟩) hS0 ?_
                    simp only [zz]
                    refine alw_step (i := 16) (by kernel_rfl) rfl rfl ?_
                    intro K1 HK1
                    go_wp2_with fail
                    refine ((HCZ.out.still (by exact fun _ _ _ => Rp.still) hS0).roomP).mono ?_
                    rintro e wf ⟨k1, hk1, rfl, rfl⟩

                    refine HK1.out _ _ ⟨hS0, ?_⟩
                    clear HK1
                    try simp only [zz]
                    refine alw_take (i := 17) (v := .bool false) rfl (by kernel_rfl) (by kernel_rfl) (fun _ _ _ h => h) (.inl ⟨by rfl, fun W hW => ix_lss rfl rfl rfl (decide_eq_false (by omega))⟩) hS0 ?_
                    simp only [zz]
                    refine alw_take (i := 18) (v := .bool false) rfl (by kernel_rfl) (by kernel_rfl) (fun _ _ _ h => h) (.inl ⟨by rfl, fun W hW => ix_pickF rfl rfl rfl⟩) hS0 ?_
                    simp only [zz]
                    refine alw_take (i := 19) (v := .bool false) rfl (by kernel_rfl) (by kernel_rfl) (fun _ _ _ h => h) (.inl ⟨by rfl, fun W hW => exec_move rfl rfl⟩) hS0 ?_
                    simp only [zz]
                    refine alw_take (i := 20) (v := .pointer (some ⟨x, 0, none⟩)) rfl (by kernel_rfl) (by kernel_rfl) (fun _ _ _ h => h) (.inl ⟨by rfl, fun W hW => exec_move rfl rfl⟩) hS0 ?_
                    simp only [zz]
                    refine alw_take (i := 22) (v := .int .i64 (n : Int)) rfl (by kernel_rfl) (by kernel_rfl) (fun _ _ _ h => h) (.inl ⟨by rfl, fun W hW => exec_move rfl rfl⟩) hS0 ?_
                    simp only [zz]
                    refine alw_take (i := 23) (v := .int .i64 ((n - 2 : Nat) : Int)) rfl (by kernel_rfl) (by kernel_rfl) (fun _ _ _ h => h) (.inl ⟨by rfl, fun W hW => ix_sub rfl rfl rfl (by omega) (by omega)⟩) hS0 ?_
                    simp only [zz]
                    refine alw_take (i := 24) (v := .int .i64 (S : Int)) rfl (by kernel_rfl) (by kernel_rfl) (fun _ _ _ h => h) (.inl ⟨by rfl, fun W hW => (wx_quo (m := 64) rfl rfl rfl (by decide) (by omega)).trans (by rw [HDV.out])⟩) hS0 ?_
                    simp only [zz]
                    refine alw_step (i := 21) (by kernel_rfl) rfl rfl ?_
                    intro K1 HK1
                    go_wp2_with fail
                    refine ((HCZ.out.still (by exact fun _ _ _ => Rp.still) hS0).roomP).mono ?_
                    rintro e wf ⟨k2, hk2, rfl, rfl⟩

                    refine HK1.out _ _ ⟨hS0, ?_⟩
                    clear HK1
                    try simp only [zz]
                    refine alw_take (i := 25) (v := .bool false) rfl (by kernel_rfl) (by kernel_rfl) (fun _ _ _ h => h) (.inl ⟨by rfl, fun W hW => ix_geq rfl rfl rfl (decide_eq_false (by omega))⟩) hS0 ?_
                    simp only [zz]
                    refine alw_take (i := 26) (v := .bool false) rfl (by kernel_rfl) (by kernel_rfl) (fun _ _ _ h => h) (.inl ⟨by rfl, fun W hW => ix_pickF rfl rfl rfl⟩) hS0 ?_
                    simp only [zz]
                    have HCY := Lib.hid (HCZ.out.still (by exact fun _ _ _ => Rp.still) hS0)
                    have HTY := Lib.hid (HTZ.out.trans hS0 fun _ _ e => e)
                    refine alw_done rfl ?_
                    refine NoPanic.normal ?_
                    clear hS0
                    try simp only [zz]
                    go_upto_region 9 with fail
                    refine wp_region_lit ?_
                    refine nR (.int .i64 (i : Int)) (exec_move rfl rfl) ?_;simp only [zz];refine nR (.int .i64 ((i + 1 : Nat) : Int)) (ix_add rfl rfl rfl (by omega) (by omega)) ?_;simp only [zz];refine nR (.int .i64 ((i + 1 : Nat) : Int)) (gx_assign rfl rfl) ?_;simp only [zz]
                    go_wp2_with fail
                    go_roundg (m - (i + 1))
                    case measure => have := HGK.out; have := HLM.out; omega
                    case rel => exact ⟨i + 1, b7, fZ, x, LZ, rfl, rfl, rfl, by have := HLM.out; omega, HTY.out, HCY.out, HLLZ.out⟩
                · as_aux_lemma =>
                    obtain rfl : L = LQ := hLQ.symm
                    have HNF := Lib.hid hnf
                    clear hnf
                    rw [decide_eq_false hlo]
                    have HLO := Lib.hid hlo
                    clear hlo
                    have HCS := Lib.hid HC9.out.cs
                    obtain ⟨Ab, cb, Zb, hbb, hgb⟩ := HCS.out.bookat (List.mem_singleton.2 rfl)
                    have HBB := Lib.hid hbb
                    have HGB := Lib.hid hgb
                    clear hbb hgb HC9 HW9
                    go_upto_region 33 with fail
                    refine wp_region_lit ?_
                    refine nR (.pointer (some ⟨b, 0, none⟩)) (exec_move rfl rfl) ?_;simp only [zz];refine nR (.pointer (some ⟨v, 2, none⟩)) (exec_field (off := 0) (d := 2) rfl rfl (by kernel_rfl)) ?_;simp only [zz];refine nR (.slice o.L.A o.L.n o.L.c) (exec_load1 rfl rfl (by kernel_rfl) (HB9.out.cell 2)) ?_;simp only [zz];refine nR (.int .i64 (n : Int)) (exec_move rfl rfl) ?_;simp only [zz]
                    refine wpList_op rfl fun K9 HK9 => ?_
                    go_wp2_with fail
                    refine (fits_walk (c := o.L.c) HBB.out HGB.out (HOK.out.L.still HT9.out) HLO.out HLL.out (by have := HFL.out; omega) HSD.out (by omega) (by omega)).mono ?_
                    rintro e wr3 ⟨rfl, rfl⟩
                    refine HK9.out _ _ ?_
                    clear HK9
                    try simp only [zz]
                    rw [decide_eq_false HNF.out]
                    refine nR (.bool false) (gx_assign rfl rfl) ?_;simp only [zz]
                    go_upto_region 34 with fail
                    refine wp_region_lit ?_
                    refine nR (.int .i64 3) (exec_move rfl rfl) ?_;simp only [zz];refine nR (.bool true) (ix_eql rfl rfl rfl (by decide)) ?_;simp only [zz];refine nR (.bool true) (exec_move rfl rfl) ?_;simp only [zz];refine wpList_run (v := .bool false) rfl (exec_move rfl rfl) ?_;simp only [zz];refine nR (.bool false) (ix_pickT rfl rfl rfl) ?_;simp only [zz];refine nR (.bool false) (exec_move rfl rfl) ?_;simp only [zz];refine wpList_run (v := .int .i64 3) rfl (exec_move rfl rfl) ?_;simp only [zz];refine wpList_run (v := .bool true) rfl (ix_neq rfl rfl rfl (by decide)) ?_;simp only [zz];refine wpList_run (v := .bool true) rfl (exec_move rfl rfl) ?_;simp only [zz];refine wpList_run (v := .int .i64 3) rfl (exec_move rfl rfl) ?_;simp only [zz];refine wpList_run (v := .bool false) rfl (ix_neq rfl rfl rfl (by decide)) ?_;simp only [zz];refine wpList_run (v := .bool false) rfl (ix_pickT rfl rfl rfl) ?_;simp only [zz];refine nR (.bool false) (ix_pickF rfl rfl rfl) ?_;simp only [zz];refine nR (.bool false) (exec_move rfl rfl) ?_;simp only [zz];refine wpList_run (v := .int .i64 3) rfl (exec_move rfl rfl) ?_;simp only [zz];refine wpList_run (v := .bool false) rfl (ix_eql rfl rfl rfl (by decide)) ?_;simp only [zz];refine wpList_run (v := .bool false) rfl (exec_move rfl rfl) ?_;simp only [zz];refine wpList_skip (by go_simp) ?_;simp only [zz];refine wpList_skip (by go_simp) ?_;simp only [zz];refine wpList_skip (by go_simp) ?_;simp only [zz];refine wpList_skip (by go_simp) ?_;simp only [zz];refine wpList_run (v := .bool false) rfl (ix_pickF rfl rfl rfl) ?_;simp only [zz];refine nR (.bool false) (ix_pickF rfl rfl rfl) ?_;simp only [zz]
                    go_upto_region 36 with fail
                    refine wp_region_lit ?_
                    refine nR (.int .i64 3) (exec_move rfl rfl) ?_;simp only [zz];refine nR (.bool false) (ix_eql rfl rfl rfl (by decide)) ?_;simp only [zz]
                    have HCZ := Lib.hid (show Cs w _ (2 * (i + 1)) [(b, f, L)] (Rp p x S n f (2 * (i + 1)) L) from (HCS.out).imp (fun G hR => hR.up (by omega)) (by omega))
                    have HLLZ := Lib.hid (show ∀ l ∈ L, ¬ Wl.long l from HLL.out)
                    obtain ⟨fZ, hfZ⟩ : ∃ z, z = f := ⟨_, rfl⟩
                    obtain ⟨LZ, hLZ⟩ : ∃ z, z = L := ⟨_, rfl⟩
                    rw [← hfZ, ← hLZ] at HCZ
                    rw [← hLZ] at HLLZ
                    clear hfZ hLZ
                    obtain ⟨AZ, cZ, ZZ, hbZ, _⟩ := HCZ.out.bookat (List.mem_singleton.2 rfl)
                    obtain ⟨nZ, hnZ⟩ : ∃ z, z = LZ.length := ⟨_, rfl⟩
                    rw [← hnZ] at hbZ
                    have HNZ := Lib.hid hnZ
                    have HBZ := Lib.hid hbZ
                    have yfZ : fZ + nZ ≤ 2 * (i + 1) := by rw [hnZ]; exact HCZ.out.rn.size
                    have HTZ := Lib.hid (HT9.out)
                    have yim : i < m := HLM.out
                    clear hbZ hnZ
                    go_upto_region 50 with fail
                    refine wp_region_alw (fun W => Turn nowhere wr3 W) (by kernel_rfl) ?_
                    have hS0 := (Turn.refl nowhere wr3).drew
                    generalize wr3.drew = wd at *
                    refine alw_take (i := 0) (v := .pointer (some ⟨x, 0, none⟩)) rfl (by kernel_rfl) (by kernel_rfl) (fun _ _ _ h => h) (.inl ⟨by rfl, fun W hW => exec_move rfl rfl⟩) hS0 ?_
                    simp only [zz]
                    refine alw_take (i := 2) (v := .pointer (some ⟨b, 0, none⟩)) rfl (by kernel_rfl) (by kernel_rfl) (fun _ _ _ h => h) (.inl ⟨by rfl, fun W hW => exec_move rfl rfl⟩) hS0 ?_
                    simp only [zz]
                    refine alw_take (i := 3) (v := .pointer (some ⟨b, 0, none⟩)) rfl (by kernel_rfl) (by kernel_rfl) (fun _ _ _ h => h) (.inl ⟨by rfl, fun W hW => exec_nil rfl rfl⟩) hS0 ?_
                    simp only [zz]
                    refine alw_take (i := 4) (v := .pointer (some ⟨b, 0, none⟩)) rfl (by kernel_rfl) (by kernel_rfl) (fun _ _ _ h => h) (.inl ⟨by rfl, fun W hW => exec_field (off := 0) (d := 0) rfl rfl (by kernel_rfl)⟩) hS0 ?_
                    simp only [zz]
                    refine alw_take (i := 5) (v := .int .i64 (fZ : Int)) rfl (by kernel_rfl) (by kernel_rfl) (fun _ _ _ h => h) (.inl ⟨by rfl, fun W hW => exec_load1 rfl rfl (by kernel_rfl) ((HBZ.out.turn hW fun e => e).cell 0)⟩) hS0 ?_
                    simp only [zz]
                    refine alw_step (i := 1) (by kernel_rfl) rfl rfl ?_
                    intro K1 HK1
                    go_wp2_with fail
                    refine ((HCZ.out.still (by exact fun _ _ _ => Rp.still) hS0).firstP).mono ?_
                    rintro e wd ⟨rfl, rfl⟩

                    refine HK1.out _ _ ⟨hS0, ?_⟩
                    clear HK1
                    try simp only [zz]
                    refine alw_take (i := 6) (v := .bool false) rfl (by kernel_rfl) (by kernel_rfl) (fun _ _ _ h => h) (.inl ⟨by rfl, fun W hW => ix_neq rfl rfl rfl (decide_eq_false (fun e => e rfl))⟩) hS0 ?_
                    simp only [zz]
                    refine alw_take (i := 7) (v := .bool false) rfl (by kernel_rfl) (by kernel_rfl) (fun _ _ _ h => h) (.inl ⟨by rfl, fun W hW => exec_move rfl rfl⟩) hS0 ?_
                    simp only [zz]
                    refine alw_take (i := 8) (v := .pointer (some ⟨x, 0, none⟩)) rfl (by kernel_rfl) (by kernel_rfl) (fun _ _ _ h => h) (.inl ⟨by rfl, fun W hW => exec_move rfl rfl⟩) hS0 ?_
                    simp only [zz]
                    refine alw_take (i := 10) (v := .pointer (some ⟨b, 0, none⟩)) rfl (by kernel_rfl) (by kernel_rfl) (fun _ _ _ h => h) (.inl ⟨by rfl, fun W hW => exec_move rfl rfl⟩) hS0 ?_
                    simp only [zz]
                    refine alw_step (i := 9) (by kernel_rfl) rfl rfl ?_
                    intro K1 HK1
                    go_wp2_with fail
                    refine ((HCZ.out.still (by exact fun _ _ _ => Rp.still) hS0).nextP (by omega)).mono ?_
                    rintro e we ⟨rfl, ht⟩
                    have hS1 := hS0.trans ht fun _ _ e => e
                    clear ht
                    refine HK1.out _ _ ⟨hS1, ?_⟩
                    clear HK1
                    try simp only [zz]
                    refine alw_step (i := 11) (by kernel_rfl) rfl rfl ?_
                    intro K1 HK1
                    go_wp2_with fail
                    refine ((HCZ.out.still (by exact fun _ _ _ => Rp.still) hS1).bnext (by omega) (List.mem_singleton.2 rfl)).mono ?_
                    rintro e wf ⟨rfl, ht⟩
                    have hS2 := hS1.trans ht fun _ _ e => e
                    clear ht
                    refine HK1.out _ _ ⟨hS2, ?_⟩
                    clear HK1
                    try simp only [zz]
                    rw [← HNZ.out]
                    clear hS0 hS1
                    have hS0 := hS2
                    clear hS2
                    refine alw_take (i := 12) (v := .bool false) rfl (by kernel_rfl) (by kernel_rfl) (fun _ _ _ h => h) (.inl ⟨by rfl, fun W hW => ix_neq rfl rfl rfl (decide_eq_false (fun e => e rfl))⟩) hS0 ?_
                    simp only [zz]
                    refine alw_take (i := 13) (v := .bool false) rfl (by kernel_rfl) (by kernel_rfl) (fun _ _ _ h => h) (.inl ⟨by rfl, fun W hW => ix_pickF rfl rfl rfl⟩) hS0 ?_
                    simp only [zz]
                    refine alw_take (i := 14) (v := .bool false) rfl (by kernel_rfl) (by kernel_rfl) (fun _ _ _ h => h) (.inl ⟨by rfl, fun W hW => exec_move rfl rfl⟩) hS0 ?_
                    simp only [zz]
                    refine alw_take (i := 15) (v := .pointer (some ⟨x, 0, none⟩)) rfl (by kernel_rfl) (by kernel_rfl) (fun _ _ _ h => h) (.inl ⟨by rfl, fun W hW => exec_move rfl rfl⟩) hS0 ?_
                    simp only [zz]
                    refine alw_step (i := 16) (by kernel_rfl) rfl rfl ?_
                    intro K1 HK1
                    go_wp2_with fail
                    refine ((HCZ.out.still (by exact fun _ _ _ => Rp.still) hS0).roomP).mono ?_
                    rintro e wf ⟨k1, hk1, rfl, rfl⟩

                    refine HK1.out _ _ ⟨hS0, ?_⟩
                    clear HK1
                    try simp only [zz]
                    refine alw_take (i := 17) (v := .bool false) rfl (by kernel_rfl) (by kernel_rfl) (fun _ _ _ h => h) (.inl ⟨by rfl, fun W hW => ix_lss rfl rfl rfl (decide_eq_false (by omega))⟩) hS0 ?_
                    simp only [zz]
                    refine alw_take (i := 18) (v := .bool false) rfl (by kernel_rfl) (by kernel_rfl) (fun _ _ _ h => h) (.inl ⟨by rfl, fun W hW => ix_pickF rfl rfl rfl⟩) hS0 ?_
                    simp only [zz]
                    refine alw_take (i := 19) (v := .bool false) rfl (by kernel_rfl) (by kernel_rfl) (fun _ _ _ h => h) (.inl ⟨by rfl, fun W hW => exec_move rfl rfl⟩) hS0 ?_
                    simp only [zz]
                    refine alw_take (i := 20) (v := .pointer (some ⟨x, 0, none⟩)) rfl (by kernel_rfl) (by kernel_rfl) (fun _ _ _ h => h) (.inl ⟨by rfl, fun W hW => exec_move rfl rfl⟩) hS0 ?_
                    simp only [zz]
                    refine alw_take (i := 22) (v := .int .i64 (n : Int)) rfl (by kernel_rfl) (by kernel_rfl) (fun _ _ _ h => h) (.inl ⟨by rfl, fun W hW => exec_move rfl rfl⟩) hS0 ?_
                    simp only [zz]
                    refine alw_take (i := 23) (v := .int .i64 ((n - 2 : Nat) : Int)) rfl (by kernel_rfl) (by kernel_rfl) (fun _ _ _ h => h) (.inl ⟨by rfl, fun W hW => ix_sub rfl rfl rfl (by omega) (by omega)⟩) hS0 ?_
                    simp only [zz]
                    refine alw_take (i := 24) (v := .int .i64 (S : Int)) rfl (by kernel_rfl) (by kernel_rfl) (fun _ _ _ h => h) (.inl ⟨by rfl, fun W hW => (wx_quo (m := 64) rfl rfl rfl (by decide) (by omega)).trans (by rw [HDV.out])⟩) hS0 ?_
                    simp only [zz]
                    refine alw_step (i := 21) (by kernel_rfl) rfl rfl ?_
                    intro K1 HK1
                    go_wp2_with fail
                    refine ((HCZ.out.still (by exact fun _ _ _ => Rp.still) hS0).roomP).mono ?_
                    rintro e wf ⟨k2, hk2, rfl, rfl⟩

                    refine HK1.out _ _ ⟨hS0, ?_⟩
                    clear HK1
                    try simp only [zz]
                    refine alw_take (i := 25) (v := .bool false) rfl (by kernel_rfl) (by kernel_rfl) (fun _ _ _ h => h) (.inl ⟨by rfl, fun W hW => ix_geq rfl rfl rfl (decide_eq_false (by omega))⟩) hS0 ?_
                    simp only [zz]
                    refine alw_take (i := 26) (v := .bool false) rfl (by kernel_rfl) (by kernel_rfl) (fun _ _ _ h => h) (.inl ⟨by rfl, fun W hW => ix_pickF rfl rfl rfl⟩) hS0 ?_
                    simp only [zz]
                    have HCY := Lib.hid (HCZ.out.still (by exact fun _ _ _ => Rp.still) hS0)
                    have HTY := Lib.hid (HTZ.out.trans hS0 fun _ _ e => e)
                    refine alw_done rfl ?_
                    refine NoPanic.normal ?_
                    clear hS0
                    try simp only [zz]
                    go_upto_region 9 with fail
                    refine wp_region_lit ?_
                    refine nR (.int .i64 (i : Int)) (exec_move rfl rfl) ?_;simp only [zz];refine nR (.int .i64 ((i + 1 : Nat) : Int)) (ix_add rfl rfl rfl (by omega) (by omega)) ?_;simp only [zz];refine nR (.int .i64 ((i + 1 : Nat) : Int)) (gx_assign rfl rfl) ?_;simp only [zz]
                    go_wp2_with fail
                    go_roundg (m - (i + 1))
                    case measure => have := HGK.out; have := HLM.out; omega
                    case rel => exact ⟨i + 1, b, fZ, x, LZ, rfl, rfl, rfl, by have := HLM.out; omega, HTY.out, HCY.out, HLLZ.out⟩
    · as_aux_lemma =>
        rw [decide_eq_false h4]
        have HC4 := Lib.hid (HST.out.still (by exact fun _ _ _ => Rp.still) HT34.out)
        clear HST
        by_cases hk5 : kk = 5
        · go_upto_region 38 with fail
          refine wp_region_lit ?_
          refine nR (.bool true) (ix_eql rfl rfl rfl (decide_eq_true hk5)) ?_;simp only [zz];refine nR (.bool true) (gx_assign rfl rfl) ?_;simp only [zz]
          clear hk5
          obtain ⟨Ab, cb, Zb, hbb, _⟩ := HC4.out.bookat (List.mem_singleton.2 rfl)
          obtain ⟨ll, hll⟩ : ∃ ll, ll = L.length := ⟨_, rfl⟩
          rw [← hll] at hbb
          have HLN := Lib.hid hll
          have yl : f + ll ≤ 2 * i := by rw [hll]; exact HFL.out
          obtain ⟨no, hno⟩ : ∃ no, no = IntKind.i64.wrap ((f : Int) + o.n) := ⟨_, rfl⟩
          have hni : -9223372036854775808 ≤ no ∧ no ≤ 9223372036854775807 := by
            rw [hno, IntKind.wrap_i64]
            omega
          have HNI := Lib.hid hni
          have HNO := Lib.hid hno.symm
          have HD0 := Lib.hid (Turn.refl nowhere w4).drew
          have HBBd := Lib.hid (show Blk w4.drew b 32 #[.int .i64 (f : Int), .slice Ab ll cb] from hbb)
          have HBvd := Lib.hid (show Blk w4.drew v 36 o.cells.toArray from HBv4.out)
          clear hbb hll hno hni
          go_upto_region 39 with fail
          refine wp_region_alw (fun W => Blk W b 32 #[.int .i64 (f : Int), .slice Ab ll cb] ∧ Blk W v 36 o.cells.toArray) (by kernel_rfl) ?_
          have hS0 : Blk w4.drew b 32 #[.int .i64 (f : Int), .slice Ab ll cb] ∧ Blk w4.drew v 36 o.cells.toArray := ⟨HBBd.out, HBvd.out⟩
          refine alw_take (i := 0) (v := .pointer (some ⟨b, 0, none⟩)) rfl (by kernel_rfl) (by kernel_rfl) (fun _ _ _ h => h) (.inl ⟨by rfl, fun W hW => exec_move rfl rfl⟩) hS0 ?_
          simp only [zz]
          refine alw_take (i := 1) (v := .pointer (some ⟨b, 0, none⟩)) rfl (by kernel_rfl) (by kernel_rfl) (fun _ _ _ h => h) (.inl ⟨by rfl, fun W hW => exec_nil rfl rfl⟩) hS0 ?_
          simp only [zz]
          refine alw_take (i := 2) (v := .pointer (some ⟨b, 0, none⟩)) rfl (by kernel_rfl) (by kernel_rfl) (fun _ _ _ h => h) (.inl ⟨by rfl, fun W hW => exec_field (off := 0) (d := 0) rfl rfl (by kernel_rfl)⟩) hS0 ?_
          simp only [zz]
          refine alw_take (i := 3) (v := .int .i64 (f : Int)) rfl (by kernel_rfl) (by kernel_rfl) (fun _ _ _ h => h) (.inl ⟨by rfl, fun W hW => exec_load1 rfl rfl (by kernel_rfl) (hW.1.cell 0)⟩) hS0 ?_
          simp only [zz]
          refine alw_take (i := 4) (v := .pointer (some ⟨v, 1, none⟩)) rfl (by kernel_rfl) (by kernel_rfl) (fun _ _ _ h => h) (.inl ⟨by rfl, fun W hW => exec_field (off := 0) (d := 1) rfl rfl (by kernel_rfl)⟩) hS0 ?_
          simp only [zz]
          refine alw_take (i := 5) (v := .int .i64 o.n) rfl (by kernel_rfl) (by kernel_rfl) (fun _ _ _ h => h) (.inl ⟨by rfl, fun W hW => exec_load1 rfl rfl (by kernel_rfl) (hW.2.cell 1)⟩) hS0 ?_
          simp only [zz]
          refine alw_take (i := 6) (v := .int .i64 no) rfl (by kernel_rfl) (by kernel_rfl) (fun _ _ _ h => h) (.inl ⟨by rfl, fun W hW => ix_addw rfl rfl rfl HNO.out⟩) hS0 ?_
          simp only [zz]
          refine alw_take (i := 7) (v := .int .i64 no) rfl (by kernel_rfl) (by kernel_rfl) (fun _ _ _ h => h) (.inl ⟨by rfl, fun W hW => gx_assign rfl rfl⟩) hS0 ?_
          simp only [zz]
          refine alw_done rfl ?_
          refine NoPanic.normal ?_
          clear hS0
          try simp only [zz]
          have HC4d := Lib.hid (HC4.out.still (by exact fun _ _ _ => Rp.still) HD0.out)
          have HT4d := Lib.hid (HT4.out.trans HD0.out fun _ _ e => e)
          generalize w4.drew = wd at *
          clear HBBd HBvd HD0 HC4
          go_upto_region 40 with fail
          refine wp_region_lit ?_
          refine nR (.pointer (some ⟨x, 0, none⟩)) (exec_move rfl rfl) ?_;simp only [zz];refine nR (.int .i64 no) (exec_move rfl rfl) ?_;simp only [zz]
          refine wpList_op (wanted_none rfl) fun K9 HK9 => ?_
          go_wp2_with fail
          refine (HC4d.out.cutP HT4d.out (by omega) no HNI.out).mono ?_
          rintro e w5 ⟨ht, hcs⟩
          have HT5 := Lib.hid ht
          clear ht
          rcases hcs with ⟨hbad, rfl, hs⟩ | ⟨kc, hkc, hkl, rfl, hs⟩
          · have HC5 := Lib.hid hs
            clear hs HC4d
            refine HK9.out _ _ ?_
            clear HK9
            try simp only [zz]
            obtain ⟨A5, c5, Z5, hb5, _⟩ := HC5.out.bookat (List.mem_singleton.2 rfl)
            have HB5 := Lib.hid hb5
            clear hb5
            have hbad2 : ¬ ((f : Int) ≤ no ∧ no ≤ ((f + ll : Nat) : Int)) := by rw [HLN.out]; exact hbad
            clear hbad
            refine nR (.int .i64 1) (gx_assign rfl rfl) ?_;simp only [zz]
            by_cases hge : (f : Int) ≤ no
            · have y8 : ¬ no ≤ ((f + ll : Nat) : Int) := fun e => hbad2 ⟨hge, e⟩
              have HBN := Lib.hid y8
              go_upto_region 41 with fail
              refine wp_region_lit ?_
              refine nR (.int .i64 1) (exec_move rfl rfl) ?_;simp only [zz];refine nR (.bool false) (ix_eql rfl rfl rfl (by decide)) ?_;simp only [zz];refine nR (.int .i64 no) (exec_move rfl rfl) ?_;simp only [zz];refine nR (.pointer (some ⟨b, 0, none⟩)) (exec_move rfl rfl) ?_;simp only [zz];refine nR (.pointer (some ⟨b, 0, none⟩)) (exec_nil rfl rfl) ?_;simp only [zz];refine nR (.pointer (some ⟨b, 0, none⟩)) (exec_field (off := 0) (d := 0) rfl rfl (by kernel_rfl)) ?_;simp only [zz];refine nR (.int .i64 (f : Int)) (exec_load1 rfl rfl (by kernel_rfl) (HB5.out.cell 0)) ?_;simp only [zz];refine nR (.bool true) (ix_geq rfl rfl rfl (decide_eq_true hge)) ?_;simp only [zz];refine nR (.bool true) (exec_move rfl rfl) ?_;simp only [zz];refine wpList_run (v := .int .i64 no) rfl (exec_move rfl rfl) ?_;simp only [zz];refine wpList_run (v := .pointer (some ⟨b, 0, none⟩)) rfl (exec_move rfl rfl) ?_;simp only [zz]
              refine wpList_op (by go_simp) fun K9 HK9 => ?_
              go_wp2_with fail
              refine (HC5.out.bnext (by omega) (List.mem_singleton.2 rfl)).mono ?_
              rintro e w6 ⟨rfl, ht⟩
              refine HK9.out _ _ ?_
              clear HK9
              try simp only [zz]
              rw [← HLN.out]
              have HC6 := Lib.hid (HC5.out.still (by exact fun _ _ _ => Rp.still) ht)
              have HT6 := Lib.hid (HT5.out.trans ht fun _ _ e => e)
              clear ht
              refine wpList_run (v := .bool false) rfl (ix_leq rfl rfl rfl (decide_eq_false (by have := HBN.out; omega))) ?_;simp only [zz];refine nR (.bool false) (ix_pickT rfl rfl rfl) ?_;simp only [zz];refine nR (.bool false) (bx_neb (p := false) (q := false) rfl rfl rfl) ?_;simp only [zz];refine nR (.bool false) (exec_move rfl rfl) ?_;simp only [zz];refine wpList_run (v := .int .i64 1) rfl (exec_move rfl rfl) ?_;simp only [zz];refine wpList_run (v := .bool true) rfl (ix_neq rfl rfl rfl (by decide)) ?_;simp only [zz];refine wpList_run (v := .bool true) rfl (exec_move rfl rfl) ?_;simp only [zz];refine wpList_run (v := .int .i64 1) rfl (exec_move rfl rfl) ?_;simp only [zz];refine wpList_run (v := .bool false) rfl (ix_neq rfl rfl rfl (by decide)) ?_;simp only [zz];refine wpList_run (v := .bool false) rfl (ix_pickT rfl rfl rfl) ?_;simp only [zz];refine nR (.bool false) (ix_pickF rfl rfl rfl) ?_;simp only [zz]
              go_upto_region 43 with fail
              refine wp_region_lit ?_
              refine nR (.int .i64 1) (exec_move rfl rfl) ?_;simp only [zz];refine nR (.bool false) (ix_eql rfl rfl rfl (by decide)) ?_;simp only [zz]
              have HCZ := Lib.hid (show Cs w _ (2 * (i + 1)) [(b, f, L)] (Rp p x S n f (2 * (i + 1)) L) from (HC6.out).imp (fun G hR => hR.up (by omega)) (by omega))
              have HLLZ := Lib.hid (show ∀ l ∈ L, ¬ Wl.long l from HLL.out)
              obtain ⟨fZ, hfZ⟩ : ∃ z, z = f := ⟨_, rfl⟩
              obtain ⟨LZ, hLZ⟩ : ∃ z, z = L := ⟨_, rfl⟩
              rw [← hfZ, ← hLZ] at HCZ
              rw [← hLZ] at HLLZ
              clear hfZ hLZ
              obtain ⟨AZ, cZ, ZZ, hbZ, _⟩ := HCZ.out.bookat (List.mem_singleton.2 rfl)
              obtain ⟨nZ, hnZ⟩ : ∃ z, z = LZ.length := ⟨_, rfl⟩
              rw [← hnZ] at hbZ
              have HNZ := Lib.hid hnZ
              have HBZ := Lib.hid hbZ
              have yfZ : fZ + nZ ≤ 2 * (i + 1) := by rw [hnZ]; exact HCZ.out.rn.size
              have HTZ := Lib.hid (HT6.out)
              have yim : i < m := HLM.out
              clear hbZ hnZ
              go_upto_region 50 with fail
              refine wp_region_alw (fun W => Turn nowhere w6 W) (by kernel_rfl) ?_
              have hS0 := (Turn.refl nowhere w6).drew
              generalize w6.drew = wd at *
              refine alw_take (i := 0) (v := .pointer (some ⟨x, 0, none⟩)) rfl (by kernel_rfl) (by kernel_rfl) (fun _ _ _ h => h) (.inl ⟨by rfl, fun W hW => exec_move rfl rfl⟩) hS0 ?_
              simp only [zz]
              refine alw_take (i := 2) (v := .pointer (some ⟨b, 0, none⟩)) rfl (by kernel_rfl) (by kernel_rfl) (fun _ _ _ h => h) (.inl ⟨by rfl, fun W hW => exec_move rfl rfl⟩) hS0 ?_
              simp only [zz]
              refine alw_take (i := 3) (v := .pointer (some ⟨b, 0, none⟩)) rfl (by kernel_rfl) (by kernel_rfl) (fun _ _ _ h => h) (.inl ⟨by rfl, fun W hW => exec_nil rfl rfl⟩) hS0 ?_
              simp only [zz]
              refine alw_take (i := 4) (v := .pointer (some ⟨b, 0, none⟩)) rfl (by kernel_rfl) (by kernel_rfl) (fun _ _ _ h => h) (.inl ⟨by rfl, fun W hW => exec_field (off := 0) (d := 0) rfl rfl (by kernel_rfl)⟩) hS0 ?_
              simp only [zz]
              refine alw_take (i := 5) (v := .int .i64 (fZ : Int)) rfl (by kernel_rfl) (by kernel_rfl) (fun _ _ _ h => h) (.inl ⟨by rfl, fun W hW => exec_load1 rfl rfl (by kernel_rfl) ((HBZ.out.turn hW fun e => e).cell 0)⟩) hS0 ?_
              simp only [zz]
              refine alw_step (i := 1) (by kernel_rfl) rfl rfl ?_
              intro K1 HK1
              go_wp2_with fail
              refine ((HCZ.out.still (by exact fun _ _ _ => Rp.still) hS0).firstP).mono ?_
              rintro e wd ⟨rfl, rfl⟩

              refine HK1.out _ _ ⟨hS0, ?_⟩
              clear HK1
              try simp only [zz]
              refine alw_take (i := 6) (v := .bool false) rfl (by kernel_rfl) (by kernel_rfl) (fun _ _ _ h => h) (.inl ⟨by rfl, fun W hW => ix_neq rfl rfl rfl (decide_eq_false (fun e => e rfl))⟩) hS0 ?_
              simp only [zz]
              refine alw_take (i := 7) (v := .bool false) rfl (by kernel_rfl) (by kernel_rfl) (fun _ _ _ h => h) (.inl ⟨by rfl, fun W hW => exec_move rfl rfl⟩) hS0 ?_
              simp only [zz]
              refine alw_take (i := 8) (v := .pointer (some ⟨x, 0, none⟩)) rfl (by kernel_rfl) (by kernel_rfl) (fun _ _ _ h => h) (.inl ⟨by rfl, fun W hW => exec_move rfl rfl⟩) hS0 ?_
              simp only [zz]
              refine alw_take (i := 10) (v := .pointer (some ⟨b, 0, none⟩)) rfl (by kernel_rfl) (by kernel_rfl) (fun _ _ _ h => h) (.inl ⟨by rfl, fun W hW => exec_move rfl rfl⟩) hS0 ?_
              simp only [zz]
              refine alw_step (i := 9) (by kernel_rfl) rfl rfl ?_
              intro K1 HK1
              go_wp2_with fail
              refine ((HCZ.out.still (by exact fun _ _ _ => Rp.still) hS0).nextP (by omega)).mono ?_
              rintro e we ⟨rfl, ht⟩
              have hS1 := hS0.trans ht fun _ _ e => e
              clear ht
              refine HK1.out _ _ ⟨hS1, ?_⟩
              clear HK1
              try simp only [zz]
              refine alw_step (i := 11) (by kernel_rfl) rfl rfl ?_
              intro K1 HK1
              go_wp2_with fail
              refine ((HCZ.out.still (by exact fun _ _ _ => Rp.still) hS1).bnext (by omega) (List.mem_singleton.2 rfl)).mono ?_
              rintro e wf ⟨rfl, ht⟩
              have hS2 := hS1.trans ht fun _ _ e => e
              clear ht
              refine HK1.out _ _ ⟨hS2, ?_⟩
              clear HK1
              try simp only [zz]
              rw [← HNZ.out]
              clear hS0 hS1
              have hS0 := hS2
              clear hS2
              refine alw_take (i := 12) (v := .bool false) rfl (by kernel_rfl) (by kernel_rfl) (fun _ _ _ h => h) (.inl ⟨by rfl, fun W hW => ix_neq rfl rfl rfl (decide_eq_false (fun e => e rfl))⟩) hS0 ?_
              simp only [zz]
              refine alw_take (i := 13) (v := .bool false) rfl (by kernel_rfl) (by kernel_rfl) (fun _ _ _ h => h) (.inl ⟨by rfl, fun W hW => ix_pickF rfl rfl rfl⟩) hS0 ?_
              simp only [zz]
              refine alw_take (i := 14) (v := .bool false) rfl (by kernel_rfl) (by kernel_rfl) (fun _ _ _ h => h) (.inl ⟨by rfl, fun W hW => exec_move rfl rfl⟩) hS0 ?_
              simp only [zz]
              refine alw_take (i := 15) (v := .pointer (some ⟨x, 0, none⟩)) rfl (by kernel_rfl) (by kernel_rfl) (fun _ _ _ h => h) (.inl ⟨by rfl, fun W hW => exec_move rfl rfl⟩) hS0 ?_
              simp only [zz]
              refine alw_step (i := 16) (by kernel_rfl) rfl rfl ?_
              intro K1 HK1
              go_wp2_with fail
              refine ((HCZ.out.still (by exact fun _ _ _ => Rp.still) hS0).roomP).mono ?_
              rintro e wf ⟨k1, hk1, rfl, rfl⟩

              refine HK1.out _ _ ⟨hS0, ?_⟩
              clear HK1
              try simp only [zz]
              refine alw_take (i := 17) (v := .bool false) rfl (by kernel_rfl) (by kernel_rfl) (fun _ _ _ h => h) (.inl ⟨by rfl, fun W hW => ix_lss rfl rfl rfl (decide_eq_false (by omega))⟩) hS0 ?_
              simp only [zz]
              refine alw_take (i := 18) (v := .bool false) rfl (by kernel_rfl) (by kernel_rfl) (fun _ _ _ h => h) (.inl ⟨by rfl, fun W hW => ix_pickF rfl rfl rfl⟩) hS0 ?_
              simp only [zz]
              refine alw_take (i := 19) (v := .bool false) rfl (by kernel_rfl) (by kernel_rfl) (fun _ _ _ h => h) (.inl ⟨by rfl, fun W hW => exec_move rfl rfl⟩) hS0 ?_
              simp only [zz]
              refine alw_take (i := 20) (v := .pointer (some ⟨x, 0, none⟩)) rfl (by kernel_rfl) (by kernel_rfl) (fun _ _ _ h => h) (.inl ⟨by rfl, fun W hW => exec_move rfl rfl⟩) hS0 ?_
              simp only [zz]
              refine alw_take (i := 22) (v := .int .i64 (n : Int)) rfl (by kernel_rfl) (by kernel_rfl) (fun _ _ _ h => h) (.inl ⟨by rfl, fun W hW => exec_move rfl rfl⟩) hS0 ?_
              simp only [zz]
              refine alw_take (i := 23) (v := .int .i64 ((n - 2 : Nat) : Int)) rfl (by kernel_rfl) (by kernel_rfl) (fun _ _ _ h => h) (.inl ⟨by rfl, fun W hW => ix_sub rfl rfl rfl (by omega) (by omega)⟩) hS0 ?_
              simp only [zz]
              refine alw_take (i := 24) (v := .int .i64 (S : Int)) rfl (by kernel_rfl) (by kernel_rfl) (fun _ _ _ h => h) (.inl ⟨by rfl, fun W hW => (wx_quo (m := 64) rfl rfl rfl (by decide) (by omega)).trans (by rw [HDV.out])⟩) hS0 ?_
              simp only [zz]
              refine alw_step (i := 21) (by kernel_rfl) rfl rfl ?_
              intro K1 HK1
              go_wp2_with fail
              refine ((HCZ.out.still (by exact fun _ _ _ => Rp.still) hS0).roomP).mono ?_
              rintro e wf ⟨k2, hk2, rfl, rfl⟩

              refine HK1.out _ _ ⟨hS0, ?_⟩
              clear HK1
              try simp only [zz]
              refine alw_take (i := 25) (v := .bool false) rfl (by kernel_rfl) (by kernel_rfl) (fun _ _ _ h => h) (.inl ⟨by rfl, fun W hW => ix_geq rfl rfl rfl (decide_eq_false (by omega))⟩) hS0 ?_
              simp only [zz]
              refine alw_take (i := 26) (v := .bool false) rfl (by kernel_rfl) (by kernel_rfl) (fun _ _ _ h => h) (.inl ⟨by rfl, fun W hW => ix_pickF rfl rfl rfl⟩) hS0 ?_
              simp only [zz]
              have HCY := Lib.hid (HCZ.out.still (by exact fun _ _ _ => Rp.still) hS0)
              have HTY := Lib.hid (HTZ.out.trans hS0 fun _ _ e => e)
              refine alw_done rfl ?_
              refine NoPanic.normal ?_
              clear hS0
              try simp only [zz]
              go_upto_region 9 with fail
              refine wp_region_lit ?_
              refine nR (.int .i64 (i : Int)) (exec_move rfl rfl) ?_;simp only [zz];refine nR (.int .i64 ((i + 1 : Nat) : Int)) (ix_add rfl rfl rfl (by omega) (by omega)) ?_;simp only [zz];refine nR (.int .i64 ((i + 1 : Nat) : Int)) (gx_assign rfl rfl) ?_;simp only [zz]
              go_wp2_with fail
              go_roundg (m - (i + 1))
              case measure => have := HGK.out; have := HLM.out; omega
              case rel => exact ⟨i + 1, b, fZ, x, LZ, rfl, rfl, rfl, by have := HLM.out; omega, HTY.out, HCY.out, HLLZ.out⟩
            · go_upto_region 41 with fail
              refine wp_region_lit ?_
              refine nR (.int .i64 1) (exec_move rfl rfl) ?_;simp only [zz];refine nR (.bool false) (ix_eql rfl rfl rfl (by decide)) ?_;simp only [zz];refine nR (.int .i64 no) (exec_move rfl rfl) ?_;simp only [zz];refine nR (.pointer (some ⟨b, 0, none⟩)) (exec_move rfl rfl) ?_;simp only [zz];refine nR (.pointer (some ⟨b, 0, none⟩)) (exec_nil rfl rfl) ?_;simp only [zz];refine nR (.pointer (some ⟨b, 0, none⟩)) (exec_field (off := 0) (d := 0) rfl rfl (by kernel_rfl)) ?_;simp only [zz];refine nR (.int .i64 (f : Int)) (exec_load1 rfl rfl (by kernel_rfl) (HB5.out.cell 0)) ?_;simp only [zz];refine nR (.bool false) (ix_geq rfl rfl rfl (decide_eq_false hge)) ?_;simp only [zz];refine nR (.bool false) (exec_move rfl rfl) ?_;simp only [zz];refine wpList_skip (by go_simp) ?_;simp only [zz];refine wpList_skip (by go_simp) ?_;simp only [zz];refine wpList_skip (by go_simp) ?_;simp only [zz];refine wpList_skip (by go_simp) ?_;simp only [zz];refine nR (.bool false) (ix_pickF rfl rfl rfl) ?_;simp only [zz];refine nR (.bool false) (bx_neb (p := false) (q := false) rfl rfl rfl) ?_;simp only [zz];refine nR (.bool false) (exec_move rfl rfl) ?_;simp only [zz];refine wpList_run (v := .int .i64 1) rfl (exec_move rfl rfl) ?_;simp only [zz];refine wpList_run (v := .bool true) rfl (ix_neq rfl rfl rfl (by decide)) ?_;simp only [zz];refine wpList_run (v := .bool true) rfl (exec_move rfl rfl) ?_;simp only [zz];refine wpList_run (v := .int .i64 1) rfl (exec_move rfl rfl) ?_;simp only [zz];refine wpList_run (v := .bool false) rfl (ix_neq rfl rfl rfl (by decide)) ?_;simp only [zz];refine wpList_run (v := .bool false) rfl (ix_pickT rfl rfl rfl) ?_;simp only [zz];refine nR (.bool false) (ix_pickF rfl rfl rfl) ?_;simp only [zz]
              go_upto_region 43 with fail
              refine wp_region_lit ?_
              refine nR (.int .i64 1) (exec_move rfl rfl) ?_;simp only [zz];refine nR (.bool false) (ix_eql rfl rfl rfl (by decide)) ?_;simp only [zz]
              have HCZ := Lib.hid (show Cs w _ (2 * (i + 1)) [(b, f, L)] (Rp p x S n f (2 * (i + 1)) L) from (HC5.out).imp (fun G hR => hR.up (by omega)) (by omega))
              have HLLZ := Lib.hid (show ∀ l ∈ L, ¬ Wl.long l from HLL.out)
              obtain ⟨fZ, hfZ⟩ : ∃ z, z = f := ⟨_, rfl⟩
              obtain ⟨LZ, hLZ⟩ : ∃ z, z = L := ⟨_, rfl⟩
              rw [← hfZ, ← hLZ] at HCZ
              rw [← hLZ] at HLLZ
              clear hfZ hLZ
              obtain ⟨AZ, cZ, ZZ, hbZ, _⟩ := HCZ.out.bookat (List.mem_singleton.2 rfl)
              obtain ⟨nZ, hnZ⟩ : ∃ z, z = LZ.length := ⟨_, rfl⟩
              rw [← hnZ] at hbZ
              have HNZ := Lib.hid hnZ
              have HBZ := Lib.hid hbZ
              have yfZ : fZ + nZ ≤ 2 * (i + 1) := by rw [hnZ]; exact HCZ.out.rn.size
              have HTZ := Lib.hid (HT5.out)
              have yim : i < m := HLM.out
              clear hbZ hnZ
              go_upto_region 50 with fail
              refine wp_region_alw (fun W => Turn nowhere w5 W) (by kernel_rfl) ?_
              have hS0 := (Turn.refl nowhere w5).drew
              generalize w5.drew = wd at *
              refine alw_take (i := 0) (v := .pointer (some ⟨x, 0, none⟩)) rfl (by kernel_rfl) (by kernel_rfl) (fun _ _ _ h => h) (.inl ⟨by rfl, fun W hW => exec_move rfl rfl⟩) hS0 ?_
              simp only [zz]
              refine alw_take (i := 2) (v := .pointer (some ⟨b, 0, none⟩)) rfl (by kernel_rfl) (by kernel_rfl) (fun _ _ _ h => h) (.inl ⟨by rfl, fun W hW => exec_move rfl rfl⟩) hS0 ?_
              simp only [zz]
              refine alw_take (i := 3) (v := .pointer (some ⟨b, 0, none⟩)) rfl (by kernel_rfl) (by kernel_rfl) (fun _ _ _ h => h) (.inl ⟨by rfl, fun W hW => exec_nil rfl rfl⟩) hS0 ?_
              simp only [zz]
              refine alw_take (i := 4) (v := .pointer (some ⟨b, 0, none⟩)) rfl (by kernel_rfl) (by kernel_rfl) (fun _ _ _ h => h) (.inl ⟨by rfl, fun W hW => exec_field (off := 0) (d := 0) rfl rfl (by kernel_rfl)⟩) hS0 ?_
              simp only [zz]
              refine alw_take (i := 5) (v := .int .i64 (fZ : Int)) rfl (by kernel_rfl) (by kernel_rfl) (fun _ _ _ h => h) (.inl ⟨by rfl, fun W hW => exec_load1 rfl rfl (by kernel_rfl) ((HBZ.out.turn hW fun e => e).cell 0)⟩) hS0 ?_
              simp only [zz]
              refine alw_step (i := 1) (by kernel_rfl) rfl rfl ?_
              intro K1 HK1
              go_wp2_with fail
              refine ((HCZ.out.still (by exact fun _ _ _ => Rp.still) hS0).firstP).mono ?_
              rintro e wd ⟨rfl, rfl⟩

              refine HK1.out _ _ ⟨hS0, ?_⟩
              clear HK1
              try simp only [zz]
              refine alw_take (i := 6) (v := .bool false) rfl (by kernel_rfl) (by kernel_rfl) (fun _ _ _ h => h) (.inl ⟨by rfl, fun W hW => ix_neq rfl rfl rfl (decide_eq_false (fun e => e rfl))⟩) hS0 ?_
              simp only [zz]
              refine alw_take (i := 7) (v := .bool false) rfl (by kernel_rfl) (by kernel_rfl) (fun _ _ _ h => h) (.inl ⟨by rfl, fun W hW => exec_move rfl rfl⟩) hS0 ?_
              simp only [zz]
              refine alw_take (i := 8) (v := .pointer (some ⟨x, 0, none⟩)) rfl (by kernel_rfl) (by kernel_rfl) (fun _ _ _ h => h) (.inl ⟨by rfl, fun W hW => exec_move rfl rfl⟩) hS0 ?_
              simp only [zz]
              refine alw_take (i := 10) (v := .pointer (some ⟨b, 0, none⟩)) rfl (by kernel_rfl) (by kernel_rfl) (fun _ _ _ h => h) (.inl ⟨by rfl, fun W hW => exec_move rfl rfl⟩) hS0 ?_
              simp only [zz]
              refine alw_step (i := 9) (by kernel_rfl) rfl rfl ?_
              intro K1 HK1
              go_wp2_with fail
              refine ((HCZ.out.still (by exact fun _ _ _ => Rp.still) hS0).nextP (by omega)).mono ?_
              rintro e we ⟨rfl, ht⟩
              have hS1 := hS0.trans ht fun _ _ e => e
              clear ht
              refine HK1.out _ _ ⟨hS1, ?_⟩
              clear HK1
              try simp only [zz]
              refine alw_step (i := 11) (by kernel_rfl) rfl rfl ?_
              intro K1 HK1
              go_wp2_with fail
              refine ((HCZ.out.still (by exact fun _ _ _ => Rp.still) hS1).bnext (by omega) (List.mem_singleton.2 rfl)).mono ?_
              rintro e wf ⟨rfl, ht⟩
              have hS2 := hS1.trans ht fun _ _ e => e
              clear ht
              refine HK1.out _ _ ⟨hS2, ?_⟩
              clear HK1
              try simp only [zz]
              rw [← HNZ.out]
              clear hS0 hS1
              have hS0 := hS2
              clear hS2
              refine alw_take (i := 12) (v := .bool false) rfl (by kernel_rfl) (by kernel_rfl) (fun _ _ _ h => h) (.inl ⟨by rfl, fun W hW => ix_neq rfl rfl rfl (decide_eq_false (fun e => e rfl))⟩) hS0 ?_
              simp only [zz]
              refine alw_take (i := 13) (v := .bool false) rfl (by kernel_rfl) (by kernel_rfl) (fun _ _ _ h => h) (.inl ⟨by rfl, fun W hW => ix_pickF rfl rfl rfl⟩) hS0 ?_
              simp only [zz]
              refine alw_take (i := 14) (v := .bool false) rfl (by kernel_rfl) (by kernel_rfl) (fun _ _ _ h => h) (.inl ⟨by rfl, fun W hW => exec_move rfl rfl⟩) hS0 ?_
              simp only [zz]
              refine alw_take (i := 15) (v := .pointer (some ⟨x, 0, none⟩)) rfl (by kernel_rfl) (by kernel_rfl) (fun _ _ _ h => h) (.inl ⟨by rfl, fun W hW => exec_move rfl rfl⟩) hS0 ?_
              simp only [zz]
              refine alw_step (i := 16) (by kernel_rfl) rfl rfl ?_
              intro K1 HK1
              go_wp2_with fail
              refine ((HCZ.out.still (by exact fun _ _ _ => Rp.still) hS0).roomP).mono ?_
              rintro e wf ⟨k1, hk1, rfl, rfl⟩

              refine HK1.out _ _ ⟨hS0, ?_⟩
              clear HK1
              try simp only [zz]
              refine alw_take (i := 17) (v := .bool false) rfl (by kernel_rfl) (by kernel_rfl) (fun _ _ _ h => h) (.inl ⟨by rfl, fun W hW => ix_lss rfl rfl rfl (decide_eq_false (by omega))⟩) hS0 ?_
              simp only [zz]
              refine alw_take (i := 18) (v := .bool false) rfl (by kernel_rfl) (by kernel_rfl) (fun _ _ _ h => h) (.inl ⟨by rfl, fun W hW => ix_pickF rfl rfl rfl⟩) hS0 ?_
              simp only [zz]
              refine alw_take (i := 19) (v := .bool false) rfl (by kernel_rfl) (by kernel_rfl) (fun _ _ _ h => h) (.inl ⟨by rfl, fun W hW => exec_move rfl rfl⟩) hS0 ?_
              simp only [zz]
              refine alw_take (i := 20) (v := .pointer (some ⟨x, 0, none⟩)) rfl (by kernel_rfl) (by kernel_rfl) (fun _ _ _ h => h) (.inl ⟨by rfl, fun W hW => exec_move rfl rfl⟩) hS0 ?_
              simp only [zz]
              refine alw_take (i := 22) (v := .int .i64 (n : Int)) rfl (by kernel_rfl) (by kernel_rfl) (fun _ _ _ h => h) (.inl ⟨by rfl, fun W hW => exec_move rfl rfl⟩) hS0 ?_
              simp only [zz]
              refine alw_take (i := 23) (v := .int .i64 ((n - 2 : Nat) : Int)) rfl (by kernel_rfl) (by kernel_rfl) (fun _ _ _ h => h) (.inl ⟨by rfl, fun W hW => ix_sub rfl rfl rfl (by omega) (by omega)⟩) hS0 ?_
              simp only [zz]
              refine alw_take (i := 24) (v := .int .i64 (S : Int)) rfl (by kernel_rfl) (by kernel_rfl) (fun _ _ _ h => h) (.inl ⟨by rfl, fun W hW => (wx_quo (m := 64) rfl rfl rfl (by decide) (by omega)).trans (by rw [HDV.out])⟩) hS0 ?_
              simp only [zz]
              refine alw_step (i := 21) (by kernel_rfl) rfl rfl ?_
              intro K1 HK1
              go_wp2_with fail
              refine ((HCZ.out.still (by exact fun _ _ _ => Rp.still) hS0).roomP).mono ?_
              rintro e wf ⟨k2, hk2, rfl, rfl⟩

              refine HK1.out _ _ ⟨hS0, ?_⟩
              clear HK1
              try simp only [zz]
              refine alw_take (i := 25) (v := .bool false) rfl (by kernel_rfl) (by kernel_rfl) (fun _ _ _ h => h) (.inl ⟨by rfl, fun W hW => ix_geq rfl rfl rfl (decide_eq_false (by omega))⟩) hS0 ?_
              simp only [zz]
              refine alw_take (i := 26) (v := .bool false) rfl (by kernel_rfl) (by kernel_rfl) (fun _ _ _ h => h) (.inl ⟨by rfl, fun W hW => ix_pickF rfl rfl rfl⟩) hS0 ?_
              simp only [zz]
              have HCY := Lib.hid (HCZ.out.still (by exact fun _ _ _ => Rp.still) hS0)
              have HTY := Lib.hid (HTZ.out.trans hS0 fun _ _ e => e)
              refine alw_done rfl ?_
              refine NoPanic.normal ?_
              clear hS0
              try simp only [zz]
              go_upto_region 9 with fail
              refine wp_region_lit ?_
              refine nR (.int .i64 (i : Int)) (exec_move rfl rfl) ?_;simp only [zz];refine nR (.int .i64 ((i + 1 : Nat) : Int)) (ix_add rfl rfl rfl (by omega) (by omega)) ?_;simp only [zz];refine nR (.int .i64 ((i + 1 : Nat) : Int)) (gx_assign rfl rfl) ?_;simp only [zz]
              go_wp2_with fail
              go_roundg (m - (i + 1))
              case measure => have := HGK.out; have := HLM.out; omega
              case rel => exact ⟨i + 1, b, fZ, x, LZ, rfl, rfl, rfl, by have := HLM.out; omega, HTY.out, HCY.out, HLLZ.out⟩
          · have HC5 := Lib.hid hs
            clear hs HC4d
            have HKL := Lib.hid hkl
            have hkl2 : kc ≤ ll := by rw [HLN.out]; exact hkl
            subst hkc
            clear hkl
            refine HK9.out _ _ ?_
            clear HK9
            try simp only [zz]
            obtain ⟨A5, c5, Z5, hb5, _⟩ := HC5.out.bookat (List.mem_singleton.2 rfl)
            have HB5 := Lib.hid hb5
            clear hb5
            refine nR (.int .i64 0) (gx_assign rfl rfl) ?_;simp only [zz]
            go_upto_region 41 with fail
            refine wp_region_lit ?_
            refine nR (.int .i64 0) (exec_move rfl rfl) ?_;simp only [zz];refine nR (.bool true) (ix_eql rfl rfl rfl (by decide)) ?_;simp only [zz];refine nR (.int .i64 ((f + kc : Nat) : Int)) (exec_move rfl rfl) ?_;simp only [zz];refine nR (.pointer (some ⟨b, 0, none⟩)) (exec_move rfl rfl) ?_;simp only [zz];refine nR (.pointer (some ⟨b, 0, none⟩)) (exec_nil rfl rfl) ?_;simp only [zz];refine nR (.pointer (some ⟨b, 0, none⟩)) (exec_field (off := 0) (d := 0) rfl rfl (by kernel_rfl)) ?_;simp only [zz];refine nR (.int .i64 (f : Int)) (exec_load1 rfl rfl (by kernel_rfl) (HB5.out.cell 0)) ?_;simp only [zz];refine nR (.bool true) (ix_geq rfl rfl rfl (decide_eq_true (by omega))) ?_;simp only [zz];refine nR (.bool true) (exec_move rfl rfl) ?_;simp only [zz];refine wpList_run (v := .int .i64 ((f + kc : Nat) : Int)) rfl (exec_move rfl rfl) ?_;simp only [zz];refine wpList_run (v := .pointer (some ⟨b, 0, none⟩)) rfl (exec_move rfl rfl) ?_;simp only [zz]
            refine wpList_op (by go_simp) fun K9 HK9 => ?_
            go_wp2_with fail
            refine (HC5.out.bnext (by omega) (List.mem_singleton.2 rfl)).mono ?_
            rintro e w6 ⟨rfl, ht⟩
            refine HK9.out _ _ ?_
            clear HK9
            try simp only [zz]
            rw [← HLN.out]
            have HC6 := Lib.hid (HC5.out.still (by exact fun _ _ _ => Rp.still) ht)
            have HT6 := Lib.hid (HT5.out.trans ht fun _ _ e => e)
            clear ht
            refine wpList_run (v := .bool true) rfl (ix_leq rfl rfl rfl (decide_eq_true (by omega))) ?_;simp only [zz];refine nR (.bool true) (ix_pickT rfl rfl rfl) ?_;simp only [zz];refine nR (.bool false) (bx_neb (p := true) (q := true) rfl rfl rfl) ?_;simp only [zz];refine nR (.bool false) (exec_move rfl rfl) ?_;simp only [zz];refine wpList_run (v := .int .i64 0) rfl (exec_move rfl rfl) ?_;simp only [zz];refine wpList_run (v := .bool false) rfl (ix_neq rfl rfl rfl (by decide)) ?_;simp only [zz];refine wpList_run (v := .bool false) rfl (exec_move rfl rfl) ?_;simp only [zz];refine wpList_skip (by go_simp) ?_;simp only [zz];refine wpList_skip (by go_simp) ?_;simp only [zz];refine wpList_run (v := .bool false) rfl (ix_pickF rfl rfl rfl) ?_;simp only [zz];refine nR (.bool false) (ix_pickF rfl rfl rfl) ?_;simp only [zz]
            go_upto_region 43 with fail
            refine wp_region_lit ?_
            refine nR (.int .i64 0) (exec_move rfl rfl) ?_;simp only [zz];refine nR (.bool true) (ix_eql rfl rfl rfl (by decide)) ?_;simp only [zz]
            go_upto_region 44 with fail
            refine wp_region_lit ?_
            refine nR (.pointer (some ⟨b, 0, none⟩)) (exec_move rfl rfl) ?_;simp only [zz];refine nR (.int .i64 ((f + kc : Nat) : Int)) (exec_move rfl rfl) ?_;simp only [zz]
            refine wpList_op rfl fun K9 HK9 => ?_
            go_wp2_with fail
            refine (HC6.out.cutBook (by exact fun _ _ _ => Rp.still) HT6.out (List.mem_singleton.2 rfl) (by omega) HKL.out).mono ?_
            rintro e w7 ⟨ht, b7, rfl, hs⟩
            refine HK9.out _ _ ?_
            clear HK9
            try simp only [zz]
            have HT7 := Lib.hid ht
            have HC7 := Lib.hid (hs.sub (cs := [(b7, f + kc, L.drop kc)]) fun e he => by rw [List.mem_singleton.1 he]; exact List.mem_cons_self ..)
            clear ht hs
            refine nR (.pointer (some ⟨b7, 0, none⟩)) (gx_assign rfl rfl) ?_;simp only [zz]
            have HCZ := Lib.hid (show Cs w _ (2 * (i + 1)) [(b7, (f + kc), (L.drop kc))] (Rp p x S n (f + kc) (2 * (i + 1)) (L.drop kc)) from (HC7.out).imp (fun G hR => hR.up (by omega)) (by omega))
            have HLLZ := Lib.hid (show ∀ l ∈ (L.drop kc), ¬ Wl.long l from fun l hl => HLL.out l (List.mem_of_mem_drop hl))
            obtain ⟨fZ, hfZ⟩ : ∃ z, z = (f + kc) := ⟨_, rfl⟩
            obtain ⟨LZ, hLZ⟩ : ∃ z, z = (L.drop kc) := ⟨_, rfl⟩
            rw [← hfZ, ← hLZ] at HCZ
            rw [← hLZ] at HLLZ
            clear hfZ hLZ
            obtain ⟨AZ, cZ, ZZ, hbZ, _⟩ := HCZ.out.bookat (List.mem_singleton.2 rfl)
            obtain ⟨nZ, hnZ⟩ : ∃ z, z = LZ.length := ⟨_, rfl⟩
            rw [← hnZ] at hbZ
            have HNZ := Lib.hid hnZ
            have HBZ := Lib.hid hbZ
            have yfZ : fZ + nZ ≤ 2 * (i + 1) := by rw [hnZ]; exact HCZ.out.rn.size
            have HTZ := Lib.hid (HT7.out)
            have yim : i < m := HLM.out
            clear hbZ hnZ
            go_upto_region 50 with fail
            refine wp_region_alw (fun W => Turn nowhere w7 W) (by kernel_rfl) ?_
            have hS0 := (Turn.refl nowhere w7).drew
            generalize w7.drew = wd at *
            refine alw_take (i := 0) (v := .pointer (some ⟨x, 0, none⟩)) rfl (by kernel_rfl) (by kernel_rfl) (fun _ _ _ h => h) (.inl ⟨by rfl, fun W hW => exec_move rfl rfl⟩) hS0 ?_
            simp only [zz]
            refine alw_take (i := 2) (v := .pointer (some ⟨b7, 0, none⟩)) rfl (by kernel_rfl) (by kernel_rfl) (fun _ _ _ h => h) (.inl ⟨by rfl, fun W hW => exec_move rfl rfl⟩) hS0 ?_
            simp only [zz]
            refine alw_take (i := 3) (v := .pointer (some ⟨b7, 0, none⟩)) rfl (by kernel_rfl) (by kernel_rfl) (fun _ _ _ h => h) (.inl ⟨by rfl, fun W hW => exec_nil rfl rfl⟩) hS0 ?_
            simp only [zz]
            refine alw_take (i := 4) (v := .pointer (some ⟨b7, 0, none⟩)) rfl (by kernel_rfl) (by kernel_rfl) (fun _ _ _ h => h) (.inl ⟨by rfl, fun W hW => exec_field (off := 0) (d := 0) rfl rfl (by kernel_rfl)⟩) hS0 ?_
            simp only [zz]
            refine alw_take (i := 5) (v := .int .i64 (fZ : Int)) rfl (by kernel_rfl) (by kernel_rfl) (fun _ _ _ h => h) (.inl ⟨by rfl, fun W hW => exec_load1 rfl rfl (by kernel_rfl) ((HBZ.out.turn hW fun e => e).cell 0)⟩) hS0 ?_
            simp only [zz]
            refine alw_step (i := 1) (by kernel_rfl) rfl rfl ?_
            intro K1 HK1
            go_wp2_with fail
            refine ((HCZ.out.still (by exact fun _ _ _ => Rp.still) hS0).firstP).mono ?_
            rintro e wd ⟨rfl, rfl⟩

            refine HK1.out _ _ ⟨hS0, ?_⟩
            clear HK1
            try simp only [zz]
            refine alw_take (i := 6) (v := .bool false) rfl (by kernel_rfl) (by kernel_rfl) (fun _ _ _ h => h) (.inl ⟨by rfl, fun W hW => ix_neq rfl rfl rfl (decide_eq_false (fun e => e rfl))⟩) hS0 ?_
            simp only [zz]
            refine alw_take (i := 7) (v := .bool false) rfl (by kernel_rfl) (by kernel_rfl) (fun _ _ _ h => h) (.inl ⟨by rfl, fun W hW => exec_move rfl rfl⟩) hS0 ?_
            simp only [zz]
            refine alw_take (i := 8) (v := .pointer (some ⟨x, 0, none⟩)) rfl (by kernel_rfl) (by kernel_rfl) (fun _ _ _ h => h) (.inl ⟨by rfl, fun W hW => exec_move rfl rfl⟩) hS0 ?_
            simp only [zz]
            refine alw_take (i := 10) (v := .pointer (some ⟨b7, 0, none⟩)) rfl (by kernel_rfl) (by kernel_rfl) (fun _ _ _ h => h) (.inl ⟨by rfl, fun W hW => exec_move rfl rfl⟩) hS0 ?_
            simp only [zz]
            refine alw_step (i := 9) (by kernel_rfl) rfl rfl ?_
            intro K1 HK1
            go_wp2_with fail
            refine ((HCZ.out.still (by exact fun _ _ _ => Rp.still) hS0).nextP (by omega)).mono ?_
            rintro e we ⟨rfl, ht⟩
            have hS1 := hS0.trans ht fun _ _ e => e
            clear ht
            refine HK1.out _ _ ⟨hS1, ?_⟩
            clear HK1
            try simp only [zz]
            refine alw_step (i := 11) (by kernel_rfl) rfl rfl ?_
            intro K1 HK1
            go_wp2_with fail
            refine ((HCZ.out.still (by exact fun _ _ _ => Rp.still) hS1).bnext (by omega) (List.mem_singleton.2 rfl)).mono ?_
            rintro e wf ⟨rfl, ht⟩
            have hS2 := hS1.trans ht fun _ _ e => e
            clear ht
            refine HK1.out _ _ ⟨hS2, ?_⟩
            clear HK1
            try simp only [zz]
            rw [← HNZ.out]
            clear hS0 hS1
            have hS0 := hS2
            clear hS2
            refine alw_take (i := 12) (v := .bool false) rfl (by kernel_rfl) (by kernel_rfl) (fun _ _ _ h => h) (.inl ⟨by rfl, fun W hW => ix_neq rfl rfl rfl (decide_eq_false (fun e => e rfl))⟩) hS0 ?_
            simp only [zz]
            refine alw_take (i := 13) (v := .bool false) rfl (by kernel_rfl) (by kernel_rfl) (fun _ _ _ h => h) (.inl ⟨by rfl, fun W hW => ix_pickF rfl rfl rfl⟩) hS0 ?_
            simp only [zz]
            refine alw_take (i := 14) (v := .bool false) rfl (by kernel_rfl) (by kernel_rfl) (fun _ _ _ h => h) (.inl ⟨by rfl, fun W hW => exec_move rfl rfl⟩) hS0 ?_
            simp only [zz]
            refine alw_take (i := 15) (v := .pointer (some ⟨x, 0, none⟩)) rfl (by kernel_rfl) (by kernel_rfl) (fun _ _ _ h => h) (.inl ⟨by rfl, fun W hW => exec_move rfl rfl⟩) hS0 ?_
            simp only [zz]
            refine alw_step (i := 16) (by kernel_rfl) rfl rfl ?_
            intro K1 HK1
            go_wp2_with fail
            refine ((HCZ.out.still (by exact fun _ _ _ => Rp.still) hS0).roomP).mono ?_
            rintro e wf ⟨k1, hk1, rfl, rfl⟩

            refine HK1.out _ _ ⟨hS0, ?_⟩
            clear HK1
            try simp only [zz]
            refine alw_take (i := 17) (v := .bool false) rfl (by kernel_rfl) (by kernel_rfl) (fun _ _ _ h => h) (.inl ⟨by rfl, fun W hW => ix_lss rfl rfl rfl (decide_eq_false (by omega))⟩) hS0 ?_
            simp only [zz]
            refine alw_take (i := 18) (v := .bool false) rfl (by kernel_rfl) (by kernel_rfl) (fun _ _ _ h => h) (.inl ⟨by rfl, fun W hW => ix_pickF rfl rfl rfl⟩) hS0 ?_
            simp only [zz]
            refine alw_take (i := 19) (v := .bool false) rfl (by kernel_rfl) (by kernel_rfl) (fun _ _ _ h => h) (.inl ⟨by rfl, fun W hW => exec_move rfl rfl⟩) hS0 ?_
            simp only [zz]
            refine alw_take (i := 20) (v := .pointer (some ⟨x, 0, none⟩)) rfl (by kernel_rfl) (by kernel_rfl) (fun _ _ _ h => h) (.inl ⟨by rfl, fun W hW => exec_move rfl rfl⟩) hS0 ?_
            simp only [zz]
            refine alw_take (i := 22) (v := .int .i64 (n : Int)) rfl (by kernel_rfl) (by kernel_rfl) (fun _ _ _ h => h) (.inl ⟨by rfl, fun W hW => exec_move rfl rfl⟩) hS0 ?_
            simp only [zz]
            refine alw_take (i := 23) (v := .int .i64 ((n - 2 : Nat) : Int)) rfl (by kernel_rfl) (by kernel_rfl) (fun _ _ _ h => h) (.inl ⟨by rfl, fun W hW => ix_sub rfl rfl rfl (by omega) (by omega)⟩) hS0 ?_
            simp only [zz]
            refine alw_take (i := 24) (v := .int .i64 (S : Int)) rfl (by kernel_rfl) (by kernel_rfl) (fun _ _ _ h => h) (.inl ⟨by rfl, fun W hW => (wx_quo (m := 64) rfl rfl rfl (by decide) (by omega)).trans (by rw [HDV.out])⟩) hS0 ?_
            simp only [zz]
            refine alw_step (i := 21) (by kernel_rfl) rfl rfl ?_
            intro K1 HK1
            go_wp2_with fail
            refine ((HCZ.out.still (by exact fun _ _ _ => Rp.still) hS0).roomP).mono ?_
            rintro e wf ⟨k2, hk2, rfl, rfl⟩

            refine HK1.out _ _ ⟨hS0, ?_⟩
            clear HK1
            try simp only [zz]
            refine alw_take (i := 25) (v := .bool false) rfl (by kernel_rfl) (by kernel_rfl) (fun _ _ _ h => h) (.inl ⟨by rfl, fun W hW => ix_geq rfl rfl rfl (decide_eq_false (by omega))⟩) hS0 ?_
            simp only [zz]
            refine alw_take (i := 26) (v := .bool false) rfl (by kernel_rfl) (by kernel_rfl) (fun _ _ _ h => h) (.inl ⟨by rfl, fun W hW => ix_pickF rfl rfl rfl⟩) hS0 ?_
            simp only [zz]
            have HCY := Lib.hid (HCZ.out.still (by exact fun _ _ _ => Rp.still) hS0)
            have HTY := Lib.hid (HTZ.out.trans hS0 fun _ _ e => e)
            refine alw_done rfl ?_
            refine NoPanic.normal ?_
            clear hS0
            try simp only [zz]
            go_upto_region 9 with fail
            refine wp_region_lit ?_
            refine nR (.int .i64 (i : Int)) (exec_move rfl rfl) ?_;simp only [zz];refine nR (.int .i64 ((i + 1 : Nat) : Int)) (ix_add rfl rfl rfl (by omega) (by omega)) ?_;simp only [zz];refine nR (.int .i64 ((i + 1 : Nat) : Int)) (gx_assign rfl rfl) ?_;simp only [zz]
            go_wp2_with fail
            go_roundg (m - (i + 1))
            case measure => have := HGK.out; have := HLM.out; omega
            case rel => exact ⟨i + 1, b7, fZ, x, LZ, rfl, rfl, rfl, by have := HLM.out; omega, HTY.out, HCY.out, HLLZ.out⟩
        · go_upto_region 38 with fail
          refine wp_region_lit ?_
          refine nR (.bool false) (ix_eql rfl rfl rfl (decide_eq_false hk5)) ?_;simp only [zz];refine nR (.bool false) (gx_assign rfl rfl) ?_;simp only [zz]
          by_cases hk6 : kk = 6
          · go_upto_region 45 with fail
            refine wp_region_lit ?_
            refine nR (.bool true) (ix_eql rfl rfl rfl (decide_eq_true hk6)) ?_;simp only [zz];refine nR (.bool true) (gx_assign rfl rfl) ?_;simp only [zz]
            clear hk6
            go_upto_region 46 with fail
            refine wp_region_lit ?_
            refine nR (.pointer (some ⟨p, 0, none⟩)) (exec_move rfl rfl) ?_;simp only [zz]
            refine wpList_op rfl fun K9 HK9 => ?_
            go_wp2_with fail
            refine (HC4.out.openP HT4.out (by omega) HSG.out HS0.out).mono ?_
            rintro e w5 ⟨ht, x5, rfl, hs⟩
            refine HK9.out _ _ ?_
            clear HK9
            try simp only [zz]
            have HT5 := Lib.hid ht
            have HC5 := Lib.hid hs
            clear ht hs HC4
            refine nR (.tuple #[.pointer (some ⟨x5, 0, none⟩), .int .i64 0]) (exec_move rfl rfl) ?_;simp only [zz];refine nR (.pointer (some ⟨x5, 0, none⟩)) (ix_extract rfl rfl rfl) ?_;simp only [zz];refine nR (.int .i64 0) (ix_extract rfl rfl rfl) ?_;simp only [zz];refine nR (.pointer (some ⟨x5, 0, none⟩)) (gx_assign rfl rfl) ?_;simp only [zz];refine nR (.int .i64 0) (gx_assign rfl rfl) ?_;simp only [zz]
            go_upto_region 47 with fail
            refine wp_region_lit ?_
            refine nR (.pointer (some ⟨x5, 0, none⟩)) (exec_move rfl rfl) ?_;simp only [zz];refine nR (.bool false) (ptr_nilW rfl rfl rfl rfl) ?_;simp only [zz];refine nR (.bool false) (exec_move rfl rfl) ?_;simp only [zz];refine wpList_run (v := .int .i64 0) rfl (exec_move rfl rfl) ?_;simp only [zz];refine wpList_run (v := .bool false) rfl (ix_neq rfl rfl rfl (by decide)) ?_;simp only [zz];refine nR (.bool false) (ix_pickF rfl rfl rfl) ?_;simp only [zz]
            go_upto_region 49 with fail
            refine wp_region_lit ?_
            refine nR (.pointer (some ⟨x5, 0, none⟩)) (exec_move rfl rfl) ?_;simp only [zz];refine nR (.pointer (some ⟨x5, 0, none⟩)) (gx_assign rfl rfl) ?_;simp only [zz]
            have HCZ := Lib.hid (show Cs w _ (2 * (i + 1)) [(b, f, L)] (Rp p x5 S n f (2 * (i + 1)) L) from (HC5.out).imp (fun G hR => hR.up (by omega)) (by omega))
            have HLLZ := Lib.hid (show ∀ l ∈ L, ¬ Wl.long l from HLL.out)
            obtain ⟨fZ, hfZ⟩ : ∃ z, z = f := ⟨_, rfl⟩
            obtain ⟨LZ, hLZ⟩ : ∃ z, z = L := ⟨_, rfl⟩
            rw [← hfZ, ← hLZ] at HCZ
            rw [← hLZ] at HLLZ
            clear hfZ hLZ
            obtain ⟨AZ, cZ, ZZ, hbZ, _⟩ := HCZ.out.bookat (List.mem_singleton.2 rfl)
            obtain ⟨nZ, hnZ⟩ : ∃ z, z = LZ.length := ⟨_, rfl⟩
            rw [← hnZ] at hbZ
            have HNZ := Lib.hid hnZ
            have HBZ := Lib.hid hbZ
            have yfZ : fZ + nZ ≤ 2 * (i + 1) := by rw [hnZ]; exact HCZ.out.rn.size
            have HTZ := Lib.hid (HT5.out)
            have yim : i < m := HLM.out
            clear hbZ hnZ
            go_upto_region 50 with fail
            refine wp_region_alw (fun W => Turn nowhere w5 W) (by kernel_rfl) ?_
            have hS0 := (Turn.refl nowhere w5).drew
            generalize w5.drew = wd at *
            refine alw_take (i := 0) (v := .pointer (some ⟨x5, 0, none⟩)) rfl (by kernel_rfl) (by kernel_rfl) (fun _ _ _ h => h) (.inl ⟨by rfl, fun W hW => exec_move rfl rfl⟩) hS0 ?_
            simp only [zz]
            refine alw_take (i := 2) (v := .pointer (some ⟨b, 0, none⟩)) rfl (by kernel_rfl) (by kernel_rfl) (fun _ _ _ h => h) (.inl ⟨by rfl, fun W hW => exec_move rfl rfl⟩) hS0 ?_
            simp only [zz]
            refine alw_take (i := 3) (v := .pointer (some ⟨b, 0, none⟩)) rfl (by kernel_rfl) (by kernel_rfl) (fun _ _ _ h => h) (.inl ⟨by rfl, fun W hW => exec_nil rfl rfl⟩) hS0 ?_
            simp only [zz]
            refine alw_take (i := 4) (v := .pointer (some ⟨b, 0, none⟩)) rfl (by kernel_rfl) (by kernel_rfl) (fun _ _ _ h => h) (.inl ⟨by rfl, fun W hW => exec_field (off := 0) (d := 0) rfl rfl (by kernel_rfl)⟩) hS0 ?_
            simp only [zz]
            refine alw_take (i := 5) (v := .int .i64 (fZ : Int)) rfl (by kernel_rfl) (by kernel_rfl) (fun _ _ _ h => h) (.inl ⟨by rfl, fun W hW => exec_load1 rfl rfl (by kernel_rfl) ((HBZ.out.turn hW fun e => e).cell 0)⟩) hS0 ?_
            simp only [zz]
            refine alw_step (i := 1) (by kernel_rfl) rfl rfl ?_
            intro K1 HK1
            go_wp2_with fail
            refine ((HCZ.out.still (by exact fun _ _ _ => Rp.still) hS0).firstP).mono ?_
            rintro e wd ⟨rfl, rfl⟩

            refine HK1.out _ _ ⟨hS0, ?_⟩
            clear HK1
            try simp only [zz]
            refine alw_take (i := 6) (v := .bool false) rfl (by kernel_rfl) (by kernel_rfl) (fun _ _ _ h => h) (.inl ⟨by rfl, fun W hW => ix_neq rfl rfl rfl (decide_eq_false (fun e => e rfl))⟩) hS0 ?_
            simp only [zz]
            refine alw_take (i := 7) (v := .bool false) rfl (by kernel_rfl) (by kernel_rfl) (fun _ _ _ h => h) (.inl ⟨by rfl, fun W hW => exec_move rfl rfl⟩) hS0 ?_
            simp only [zz]
            refine alw_take (i := 8) (v := .pointer (some ⟨x5, 0, none⟩)) rfl (by kernel_rfl) (by kernel_rfl) (fun _ _ _ h => h) (.inl ⟨by rfl, fun W hW => exec_move rfl rfl⟩) hS0 ?_
            simp only [zz]
            refine alw_take (i := 10) (v := .pointer (some ⟨b, 0, none⟩)) rfl (by kernel_rfl) (by kernel_rfl) (fun _ _ _ h => h) (.inl ⟨by rfl, fun W hW => exec_move rfl rfl⟩) hS0 ?_
            simp only [zz]
            refine alw_step (i := 9) (by kernel_rfl) rfl rfl ?_
            intro K1 HK1
            go_wp2_with fail
            refine ((HCZ.out.still (by exact fun _ _ _ => Rp.still) hS0).nextP (by omega)).mono ?_
            rintro e we ⟨rfl, ht⟩
            have hS1 := hS0.trans ht fun _ _ e => e
            clear ht
            refine HK1.out _ _ ⟨hS1, ?_⟩
            clear HK1
            try simp only [zz]
            refine alw_step (i := 11) (by kernel_rfl) rfl rfl ?_
            intro K1 HK1
            go_wp2_with fail
            refine ((HCZ.out.still (by exact fun _ _ _ => Rp.still) hS1).bnext (by omega) (List.mem_singleton.2 rfl)).mono ?_
            rintro e wf ⟨rfl, ht⟩
            have hS2 := hS1.trans ht fun _ _ e => e
            clear ht
            refine HK1.out _ _ ⟨hS2, ?_⟩
            clear HK1
            try simp only [zz]
            rw [← HNZ.out]
            clear hS0 hS1
            have hS0 := hS2
            clear hS2
            refine alw_take (i := 12) (v := .bool false) rfl (by kernel_rfl) (by kernel_rfl) (fun _ _ _ h => h) (.inl ⟨by rfl, fun W hW => ix_neq rfl rfl rfl (decide_eq_false (fun e => e rfl))⟩) hS0 ?_
            simp only [zz]
            refine alw_take (i := 13) (v := .bool false) rfl (by kernel_rfl) (by kernel_rfl) (fun _ _ _ h => h) (.inl ⟨by rfl, fun W hW => ix_pickF rfl rfl rfl⟩) hS0 ?_
            simp only [zz]
            refine alw_take (i := 14) (v := .bool false) rfl (by kernel_rfl) (by kernel_rfl) (fun _ _ _ h => h) (.inl ⟨by rfl, fun W hW => exec_move rfl rfl⟩) hS0 ?_
            simp only [zz]
            refine alw_take (i := 15) (v := .pointer (some ⟨x5, 0, none⟩)) rfl (by kernel_rfl) (by kernel_rfl) (fun _ _ _ h => h) (.inl ⟨by rfl, fun W hW => exec_move rfl rfl⟩) hS0 ?_
            simp only [zz]
            refine alw_step (i := 16) (by kernel_rfl) rfl rfl ?_
            intro K1 HK1
            go_wp2_with fail
            refine ((HCZ.out.still (by exact fun _ _ _ => Rp.still) hS0).roomP).mono ?_
            rintro e wf ⟨k1, hk1, rfl, rfl⟩

            refine HK1.out _ _ ⟨hS0, ?_⟩
            clear HK1
            try simp only [zz]
            refine alw_take (i := 17) (v := .bool false) rfl (by kernel_rfl) (by kernel_rfl) (fun _ _ _ h => h) (.inl ⟨by rfl, fun W hW => ix_lss rfl rfl rfl (decide_eq_false (by omega))⟩) hS0 ?_
            simp only [zz]
            refine alw_take (i := 18) (v := .bool false) rfl (by kernel_rfl) (by kernel_rfl) (fun _ _ _ h => h) (.inl ⟨by rfl, fun W hW => ix_pickF rfl rfl rfl⟩) hS0 ?_
            simp only [zz]
            refine alw_take (i := 19) (v := .bool false) rfl (by kernel_rfl) (by kernel_rfl) (fun _ _ _ h => h) (.inl ⟨by rfl, fun W hW => exec_move rfl rfl⟩) hS0 ?_
            simp only [zz]
            refine alw_take (i := 20) (v := .pointer (some ⟨x5, 0, none⟩)) rfl (by kernel_rfl) (by kernel_rfl) (fun _ _ _ h => h) (.inl ⟨by rfl, fun W hW => exec_move rfl rfl⟩) hS0 ?_
            simp only [zz]
            refine alw_take (i := 22) (v := .int .i64 (n : Int)) rfl (by kernel_rfl) (by kernel_rfl) (fun _ _ _ h => h) (.inl ⟨by rfl, fun W hW => exec_move rfl rfl⟩) hS0 ?_
            simp only [zz]
            refine alw_take (i := 23) (v := .int .i64 ((n - 2 : Nat) : Int)) rfl (by kernel_rfl) (by kernel_rfl) (fun _ _ _ h => h) (.inl ⟨by rfl, fun W hW => ix_sub rfl rfl rfl (by omega) (by omega)⟩) hS0 ?_
            simp only [zz]
            refine alw_take (i := 24) (v := .int .i64 (S : Int)) rfl (by kernel_rfl) (by kernel_rfl) (fun _ _ _ h => h) (.inl ⟨by rfl, fun W hW => (wx_quo (m := 64) rfl rfl rfl (by decide) (by omega)).trans (by rw [HDV.out])⟩) hS0 ?_
            simp only [zz]
            refine alw_step (i := 21) (by kernel_rfl) rfl rfl ?_
            intro K1 HK1
            go_wp2_with fail
            refine ((HCZ.out.still (by exact fun _ _ _ => Rp.still) hS0).roomP).mono ?_
            rintro e wf ⟨k2, hk2, rfl, rfl⟩

            refine HK1.out _ _ ⟨hS0, ?_⟩
            clear HK1
            try simp only [zz]
            refine alw_take (i := 25) (v := .bool false) rfl (by kernel_rfl) (by kernel_rfl) (fun _ _ _ h => h) (.inl ⟨by rfl, fun W hW => ix_geq rfl rfl rfl (decide_eq_false (by omega))⟩) hS0 ?_
            simp only [zz]
            refine alw_take (i := 26) (v := .bool false) rfl (by kernel_rfl) (by kernel_rfl) (fun _ _ _ h => h) (.inl ⟨by rfl, fun W hW => ix_pickF rfl rfl rfl⟩) hS0 ?_
            simp only [zz]
            have HCY := Lib.hid (HCZ.out.still (by exact fun _ _ _ => Rp.still) hS0)
            have HTY := Lib.hid (HTZ.out.trans hS0 fun _ _ e => e)
            refine alw_done rfl ?_
            refine NoPanic.normal ?_
            clear hS0
            try simp only [zz]
            go_upto_region 9 with fail
            refine wp_region_lit ?_
            refine nR (.int .i64 (i : Int)) (exec_move rfl rfl) ?_;simp only [zz];refine nR (.int .i64 ((i + 1 : Nat) : Int)) (ix_add rfl rfl rfl (by omega) (by omega)) ?_;simp only [zz];refine nR (.int .i64 ((i + 1 : Nat) : Int)) (gx_assign rfl rfl) ?_;simp only [zz]
            go_wp2_with fail
            go_roundg (m - (i + 1))
            case measure => have := HGK.out; have := HLM.out; omega
            case rel => exact ⟨i + 1, b, fZ, x5, LZ, rfl, rfl, rfl, by have := HLM.out; omega, HTY.out, HCY.out, HLLZ.out⟩
          · go_upto_region 45 with fail
            refine wp_region_lit ?_
            refine nR (.bool false) (ix_eql rfl rfl rfl (decide_eq_false hk6)) ?_;simp only [zz];refine nR (.bool false) (gx_assign rfl rfl) ?_;simp only [zz]
            have HCZ := Lib.hid (show Cs w _ (2 * (i + 1)) [(b, f, L)] (Rp p x S n f (2 * (i + 1)) L) from (HC4.out).imp (fun G hR => hR.up (by omega)) (by omega))
            have HLLZ := Lib.hid (show ∀ l ∈ L, ¬ Wl.long l from HLL.out)
            obtain ⟨fZ, hfZ⟩ : ∃ z, z = f := ⟨_, rfl⟩
            obtain ⟨LZ, hLZ⟩ : ∃ z, z = L := ⟨_, rfl⟩
            rw [← hfZ, ← hLZ] at HCZ
            rw [← hLZ] at HLLZ
            clear hfZ hLZ
            obtain ⟨AZ, cZ, ZZ, hbZ, _⟩ := HCZ.out.bookat (List.mem_singleton.2 rfl)
            obtain ⟨nZ, hnZ⟩ : ∃ z, z = LZ.length := ⟨_, rfl⟩
            rw [← hnZ] at hbZ
            have HNZ := Lib.hid hnZ
            have HBZ := Lib.hid hbZ
            have yfZ : fZ + nZ ≤ 2 * (i + 1) := by rw [hnZ]; exact HCZ.out.rn.size
            have HTZ := Lib.hid (HT4.out)
            have yim : i < m := HLM.out
            clear hbZ hnZ
            go_upto_region 50 with fail
            refine wp_region_alw (fun W => Turn nowhere w4 W) (by kernel_rfl) ?_
            have hS0 := (Turn.refl nowhere w4).drew
            generalize w4.drew = wd at *
            refine alw_take (i := 0) (v := .pointer (some ⟨x, 0, none⟩)) rfl (by kernel_rfl) (by kernel_rfl) (fun _ _ _ h => h) (.inl ⟨by rfl, fun W hW => exec_move rfl rfl⟩) hS0 ?_
            simp only [zz]
            refine alw_take (i := 2) (v := .pointer (some ⟨b, 0, none⟩)) rfl (by kernel_rfl) (by kernel_rfl) (fun _ _ _ h => h) (.inl ⟨by rfl, fun W hW => exec_move rfl rfl⟩) hS0 ?_
            simp only [zz]
            refine alw_take (i := 3) (v := .pointer (some ⟨b, 0, none⟩)) rfl (by kernel_rfl) (by kernel_rfl) (fun _ _ _ h => h) (.inl ⟨by rfl, fun W hW => exec_nil rfl rfl⟩) hS0 ?_
            simp only [zz]
            refine alw_take (i := 4) (v := .pointer (some ⟨b, 0, none⟩)) rfl (by kernel_rfl) (by kernel_rfl) (fun _ _ _ h => h) (.inl ⟨by rfl, fun W hW => exec_field (off := 0) (d := 0) rfl rfl (by kernel_rfl)⟩) hS0 ?_
            simp only [zz]
            refine alw_take (i := 5) (v := .int .i64 (fZ : Int)) rfl (by kernel_rfl) (by kernel_rfl) (fun _ _ _ h => h) (.inl ⟨by rfl, fun W hW => exec_load1 rfl rfl (by kernel_rfl) ((HBZ.out.turn hW fun e => e).cell 0)⟩) hS0 ?_
            simp only [zz]
            refine alw_step (i := 1) (by kernel_rfl) rfl rfl ?_
            intro K1 HK1
            go_wp2_with fail
            refine ((HCZ.out.still (by exact fun _ _ _ => Rp.still) hS0).firstP).mono ?_
            rintro e wd ⟨rfl, rfl⟩

            refine HK1.out _ _ ⟨hS0, ?_⟩
            clear HK1
            try simp only [zz]
            refine alw_take (i := 6) (v := .bool false) rfl (by kernel_rfl) (by kernel_rfl) (fun _ _ _ h => h) (.inl ⟨by rfl, fun W hW => ix_neq rfl rfl rfl (decide_eq_false (fun e => e rfl))⟩) hS0 ?_
            simp only [zz]
            refine alw_take (i := 7) (v := .bool false) rfl (by kernel_rfl) (by kernel_rfl) (fun _ _ _ h => h) (.inl ⟨by rfl, fun W hW => exec_move rfl rfl⟩) hS0 ?_
            simp only [zz]
            refine alw_take (i := 8) (v := .pointer (some ⟨x, 0, none⟩)) rfl (by kernel_rfl) (by kernel_rfl) (fun _ _ _ h => h) (.inl ⟨by rfl, fun W hW => exec_move rfl rfl⟩) hS0 ?_
            simp only [zz]
            refine alw_take (i := 10) (v := .pointer (some ⟨b, 0, none⟩)) rfl (by kernel_rfl) (by kernel_rfl) (fun _ _ _ h => h) (.inl ⟨by rfl, fun W hW => exec_move rfl rfl⟩) hS0 ?_
            simp only [zz]
            refine alw_step (i := 9) (by kernel_rfl) rfl rfl ?_
            intro K1 HK1
            go_wp2_with fail
            refine ((HCZ.out.still (by exact fun _ _ _ => Rp.still) hS0).nextP (by omega)).mono ?_
            rintro e we ⟨rfl, ht⟩
            have hS1 := hS0.trans ht fun _ _ e => e
            clear ht
            refine HK1.out _ _ ⟨hS1, ?_⟩
            clear HK1
            try simp only [zz]
            refine alw_step (i := 11) (by kernel_rfl) rfl rfl ?_
            intro K1 HK1
            go_wp2_with fail
            refine ((HCZ.out.still (by exact fun _ _ _ => Rp.still) hS1).bnext (by omega) (List.mem_singleton.2 rfl)).mono ?_
            rintro e wf ⟨rfl, ht⟩
            have hS2 := hS1.trans ht fun _ _ e => e
            clear ht
            refine HK1.out _ _ ⟨hS2, ?_⟩
            clear HK1
            try simp only [zz]
            rw [← HNZ.out]
            clear hS0 hS1
            have hS0 := hS2
            clear hS2
            refine alw_take (i := 12) (v := .bool false) rfl (by kernel_rfl) (by kernel_rfl) (fun _ _ _ h => h) (.inl ⟨by rfl, fun W hW => ix_neq rfl rfl rfl (decide_eq_false (fun e => e rfl))⟩) hS0 ?_
            simp only [zz]
            refine alw_take (i := 13) (v := .bool false) rfl (by kernel_rfl) (by kernel_rfl) (fun _ _ _ h => h) (.inl ⟨by rfl, fun W hW => ix_pickF rfl rfl rfl⟩) hS0 ?_
            simp only [zz]
            refine alw_take (i := 14) (v := .bool false) rfl (by kernel_rfl) (by kernel_rfl) (fun _ _ _ h => h) (.inl ⟨by rfl, fun W hW => exec_move rfl rfl⟩) hS0 ?_
            simp only [zz]
            refine alw_take (i := 15) (v := .pointer (some ⟨x, 0, none⟩)) rfl (by kernel_rfl) (by kernel_rfl) (fun _ _ _ h => h) (.inl ⟨by rfl, fun W hW => exec_move rfl rfl⟩) hS0 ?_
            simp only [zz]
            refine alw_step (i := 16) (by kernel_rfl) rfl rfl ?_
            intro K1 HK1
            go_wp2_with fail
            refine ((HCZ.out.still (by exact fun _ _ _ => Rp.still) hS0).roomP).mono ?_
            rintro e wf ⟨k1, hk1, rfl, rfl⟩

            refine HK1.out _ _ ⟨hS0, ?_⟩
            clear HK1
            try simp only [zz]
            refine alw_take (i := 17) (v := .bool false) rfl (by kernel_rfl) (by kernel_rfl) (fun _ _ _ h => h) (.inl ⟨by rfl, fun W hW => ix_lss rfl rfl rfl (decide_eq_false (by omega))⟩) hS0 ?_
            simp only [zz]
            refine alw_take (i := 18) (v := .bool false) rfl (by kernel_rfl) (by kernel_rfl) (fun _ _ _ h => h) (.inl ⟨by rfl, fun W hW => ix_pickF rfl rfl rfl⟩) hS0 ?_
            simp only [zz]
            refine alw_take (i := 19) (v := .bool false) rfl (by kernel_rfl) (by kernel_rfl) (fun _ _ _ h => h) (.inl ⟨by rfl, fun W hW => exec_move rfl rfl⟩) hS0 ?_
            simp only [zz]
            refine alw_take (i := 20) (v := .pointer (some ⟨x, 0, none⟩)) rfl (by kernel_rfl) (by kernel_rfl) (fun _ _ _ h => h) (.inl ⟨by rfl, fun W hW => exec_move rfl rfl⟩) hS0 ?_
            simp only [zz]
            refine alw_take (i := 22) (v := .int .i64 (n : Int)) rfl (by kernel_rfl) (by kernel_rfl) (fun _ _ _ h => h) (.inl ⟨by rfl, fun W hW => exec_move rfl rfl⟩) hS0 ?_
            simp only [zz]
            refine alw_take (i := 23) (v := .int .i64 ((n - 2 : Nat) : Int)) rfl (by kernel_rfl) (by kernel_rfl) (fun _ _ _ h => h) (.inl ⟨by rfl, fun W hW => ix_sub rfl rfl rfl (by omega) (by omega)⟩) hS0 ?_
            simp only [zz]
            refine alw_take (i := 24) (v := .int .i64 (S : Int)) rfl (by kernel_rfl) (by kernel_rfl) (fun _ _ _ h => h) (.inl ⟨by rfl, fun W hW => (wx_quo (m := 64) rfl rfl rfl (by decide) (by omega)).trans (by rw [HDV.out])⟩) hS0 ?_
            simp only [zz]
            refine alw_step (i := 21) (by kernel_rfl) rfl rfl ?_
            intro K1 HK1
            go_wp2_with fail
            refine ((HCZ.out.still (by exact fun _ _ _ => Rp.still) hS0).roomP).mono ?_
            rintro e wf ⟨k2, hk2, rfl, rfl⟩

            refine HK1.out _ _ ⟨hS0, ?_⟩
            clear HK1
            try simp only [zz]
            refine alw_take (i := 25) (v := .bool false) rfl (by kernel_rfl) (by kernel_rfl) (fun _ _ _ h => h) (.inl ⟨by rfl, fun W hW => ix_geq rfl rfl rfl (decide_eq_false (by omega))⟩) hS0 ?_
            simp only [zz]
            refine alw_take (i := 26) (v := .bool false) rfl (by kernel_rfl) (by kernel_rfl) (fun _ _ _ h => h) (.inl ⟨by rfl, fun W hW => ix_pickF rfl rfl rfl⟩) hS0 ?_
            simp only [zz]
            have HCY := Lib.hid (HCZ.out.still (by exact fun _ _ _ => Rp.still) hS0)
            have HTY := Lib.hid (HTZ.out.trans hS0 fun _ _ e => e)
            refine alw_done rfl ?_
            refine NoPanic.normal ?_
            clear hS0
            try simp only [zz]
            go_upto_region 9 with fail
            refine wp_region_lit ?_
            refine nR (.int .i64 (i : Int)) (exec_move rfl rfl) ?_;simp only [zz];refine nR (.int .i64 ((i + 1 : Nat) : Int)) (ix_add rfl rfl rfl (by omega) (by omega)) ?_;simp only [zz];refine nR (.int .i64 ((i + 1 : Nat) : Int)) (gx_assign rfl rfl) ?_;simp only [zz]
            go_wp2_with fail
            go_roundg (m - (i + 1))
            case measure => have := HGK.out; have := HLM.out; omega
            case rel => exact ⟨i + 1, b, fZ, x, LZ, rfl, rfl, rfl, by have := HLM.out; omega, HTY.out, HCY.out, HLLZ.out⟩
  · by_cases hn : i < n1
    · go_upto_region 8 with fail
      refine wp_region_lit ?_
      refine nR (.int .i64 (i : Int)) (exec_move rfl rfl) ?_;simp only [zz];refine nR (.slice A1 n1 c1) (exec_move rfl rfl) ?_;simp only [zz];refine nR (.int .i64 (n1 : Int)) (gx_len rfl rfl Tryd.underlying22) ?_;simp only [zz];refine nR (.bool true) (ix_lss rfl rfl rfl (decide_eq_true (by omega))) ?_;simp only [zz];refine nR (.bool true) (exec_move rfl rfl) ?_;simp only [zz];refine wpList_run (v := .int .i64 (i : Int)) rfl (exec_move rfl rfl) ?_;simp only [zz];refine wpList_run (v := .bool false) rfl (ix_lss rfl rfl rfl (decide_eq_false (by omega))) ?_;simp only [zz];refine nR (.bool false) (ix_pickT rfl rfl rfl) ?_;simp only [zz]
      go_upto_region 52 with fail
      refine wp_region_lit ?_
      refine nR (.pointer (some ⟨b, 0, none⟩)) (exec_move rfl rfl) ?_;simp only [zz];refine nR (.pointer (some ⟨x, 0, none⟩)) (exec_move rfl rfl) ?_;simp only [zz]
      refine wpList_op rfl fun K9 HK9 => ?_
      go_wp2_with fail
      refine (HST.out.rn.like (by omega) (List.mem_singleton.2 rfl)).mono ?_
      rintro e w7 ⟨rfl, ht⟩
      refine HK9.out _ _ ?_
      clear HK9
      try simp only [zz]
      try rw [decide_eq_true (⟨rfl, rfl⟩ : f = f ∧ L = L)]
      have HT7 := Lib.hid (HTR.out.trans ht fun _ _ e => e)
      clear ht
      refine nR (.bool true) (gx_assign rfl rfl) ?_;simp only [zz]
      go_upto_region 53 with fail
      refine wp_region_lit ?_
      refine nR (.bool true) (exec_move rfl rfl) ?_;simp only [zz];refine nR (.bool true) (gx_assign rfl rfl) ?_;simp only [zz]
      go_wp2_with fail
      go_ret
      exact ⟨rfl, HT7.out⟩
    · go_upto_region 8 with fail
      refine wp_region_lit ?_
      refine nR (.int .i64 (i : Int)) (exec_move rfl rfl) ?_;simp only [zz];refine nR (.slice A1 n1 c1) (exec_move rfl rfl) ?_;simp only [zz];refine nR (.int .i64 (n1 : Int)) (gx_len rfl rfl Tryd.underlying22) ?_;simp only [zz];refine nR (.bool false) (ix_lss rfl rfl rfl (decide_eq_false (by omega))) ?_;simp only [zz];refine nR (.bool false) (exec_move rfl rfl) ?_;simp only [zz];refine wpList_skip (by go_simp) ?_;simp only [zz];refine wpList_skip (by go_simp) ?_;simp only [zz];refine nR (.bool false) (ix_pickF rfl rfl rfl) ?_;simp only [zz]
      go_upto_region 52 with fail
      refine wp_region_lit ?_
      refine nR (.pointer (some ⟨b, 0, none⟩)) (exec_move rfl rfl) ?_;simp only [zz];refine nR (.pointer (some ⟨x, 0, none⟩)) (exec_move rfl rfl) ?_;simp only [zz]
      refine wpList_op rfl fun K9 HK9 => ?_
      go_wp2_with fail
      refine (HST.out.rn.like (by omega) (List.mem_singleton.2 rfl)).mono ?_
      rintro e w7 ⟨rfl, ht⟩
      refine HK9.out _ _ ?_
      clear HK9
      try simp only [zz]
      try rw [decide_eq_true (⟨rfl, rfl⟩ : f = f ∧ L = L)]
      have HT7 := Lib.hid (HTR.out.trans ht fun _ _ e => e)
      clear ht
      refine nR (.bool true) (gx_assign rfl rfl) ?_;simp only [zz]
      go_upto_region 53 with fail
      refine wp_region_lit ?_
      refine nR (.bool true) (exec_move rfl rfl) ?_;simp only [zz];refine nR (.bool true) (gx_assign rfl rfl) ?_;simp only [zz]
      go_wp2_with fail
      go_ret
      exact ⟨rfl, HT7.out⟩
theorem walPlays_walk (a0 : Int) (A1 : Option Addr) (n1 c1 : Nat) (os : List OpV) (w : World) (h0 : -9223372036854775808 ≤ a0 ∧ a0 ≤ 9223372036854775807) (h1 : OwAt w A1 n1 os) (htab : Tab w) :
    Calls Tryd.prog 3 #[.int .i64 a0, .slice A1 n1 c1] w fun r w' => r = .returned (.bool true) ∧ Below w.heap.size w w' :=
  (walPlays_main a0 A1 n1 c1 os w h0 h1 htab).mono fun r w' ⟨h1, h2⟩ => ⟨h1, h2.below (Nat.le_refl _) fun _ _ e => e⟩
end Go.Proofs.YtelipeoilcepbaaDoor
