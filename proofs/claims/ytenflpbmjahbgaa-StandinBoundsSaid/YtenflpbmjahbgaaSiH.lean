/-
  standin's Bounds: the law's walk. No conditions.
-/
import Derived.Test.YtenflpbmjahbgaaSiF
import Derived.Shelf.SlMaps.Clone
import Derived.WalkSpells
import Derived.Lib.SliceRun
namespace Go.Proofs.Ytenflpbmjahbgaa
open Go.RowKit Go.Maps
open Si (Card Lims)
set_option linter.unusedVariables false
set_option linter.unusedSimpArgs false
set_option maxRecDepth 20000
theorem ask_facts {l : Lims} {h : Card → Int} {c : Card} {a : Int} (h0 : Si.askE l h c a = 0) : ∃ (k : Nat) (s : Int × Int), c.1 = (k : Int) ∧ k < l.length ∧ l[k]? = some s ∧ Si.okA a ∧ a ≤ s.1 ∧ h c + a ≤ s.2 ∧ Si.askH l h c a = Si.put h c (h c + a) := by
  by_cases h1 : c.1 < 0 ∨ (l.length : Int) ≤ c.1
  · rw [(Si.ask_bad1 h1).1] at h0
    cases h0
  by_cases h2 : Si.okA a
  · have hi : c.1.toNat < l.length := by omega
    have hs : l[c.1.toNat]? = some l[c.1.toNat] := List.getElem?_eq_getElem hi
    by_cases h3 : (l[c.1.toNat]).1 < a ∨ (l[c.1.toNat]).2 < h c + a
    · rw [(Si.ask_bad3 h1 h2 hs h3).1] at h0
      cases h0
    · exact ⟨c.1.toNat, _, by omega, hi, hs, h2, by omega, by omega, (Si.ask_ok h1 h2 hs h3).2⟩
  · rw [(Si.ask_bad2 h1 h2).1] at h0
    cases h0
theorem ask_bad {l : Lims} {h : Card → Int} {c : Card} {a : Int} (h0 : Si.askE l h c a ≠ 0) : Si.askH l h c a = h := by
  unfold Si.askH
  rw [if_neg h0]
/-- of these texts nothing was had -/
def Nil (h : Card → Int) (pan : List UInt8) : Prop := ∀ k : Int, h (k, pan) = 0
theorem nil_put {h : Card → Int} {pan : List UInt8} (hn : Nil h pan) {c : Card} {x : Int} (hc : c.2 ≠ pan) : Nil (Si.put h c x) pan := fun k => by
  unfold Si.put
  rw [if_neg fun e => hc (by rw [← e])]
  exact hn k
theorem wf_nat {k : Nat} (hk : k ≤ 6) : (Lit.int .i64 (k : Int)).wf = true := by
  have : k = 0 ∨ k = 1 ∨ k = 2 ∨ k = 3 ∨ k = 4 ∨ k = 5 ∨ k = 6 := by omega
  rcases this with rfl | rfl | rfl | rfl | rfl | rfl | rfl <;> decide
set_option maxRecDepth 20000 in
set_option maxHeartbeats 4000000 in
theorem bounds_walk {A B : Option Addr} {m q n c : Nat} {l : Lims} {os : List SOp} {pan : List UInt8} (W : World) (hr : Rws W 2 A m (l.map limC)) (hcc : A = none → q = 0) (hm : m ≤ 140737488355328) (hk : OpAt W B n os) (hb : n ≤ 140737488355328) (hp : pan.length ≤ 281474976710656) :
    Calls Try.prog 4 #[.slice A m q, .slice B n c, strV pan] W fun e w' => e = .returned (.bool true) ∧ Turn nowhere W w' := by
  have HR := Lib.hid hr
  have HLN := Lib.hid (lim_len hr)
  have HCC := Lib.hid hcc
  have HK := Lib.hid hk
  have HOL := Lib.hid hk.len
  have HP := Lib.hid hp
  have HM := Lib.hid hm
  have yn : (n : Int) ≤ 140737488355328 := by omega
  have ym : (m : Int) ≤ 140737488355328 := by omega
  clear hk hb hr hcc hp hm
  go_enter Try.func4, Try.ntmps4
  go_upto_region 0 with fail
  refine wp_region_lit ?_
  refine wpList_run (v := .bool false) (wanted_none rfl) (gx_assign rfl rfl) ?_
  simp only [Act.put, List.setIfInBounds_toArray, List.set_cons_zero, List.set_cons_succ]
  go_upto_region 1 with fail
  refine wp_region_lit ?_
  refine wpList_op (wanted_none rfl) fun K9 HK9 => ?_
  go_wp2_with fail
  refine (shown_walk W).mono ?_
  rintro e w1 ⟨rfl, ht⟩
  refine HK9.out _ _ ?_
  clear HK9
  try simp only [Act.put, List.setIfInBounds_toArray, List.set_cons_zero, List.set_cons_succ]
  have HT1 := Lib.hid ht
  have HR1 := Lib.hid (HR.out.still ht)
  clear ht
  refine wpList_run (v := .bool true) (wanted_none rfl) (gx_assign rfl rfl) ?_
  simp only [Act.put, List.setIfInBounds_toArray, List.set_cons_zero, List.set_cons_succ]
  by_cases hz : Si.newE l = 0
  · have HZ := Lib.hid hz
    clear hz
    go_upto_region 2 with fail
    refine wp_region_lit ?_
    refine wpList_run (v := .slice A m q) (wanted_none rfl) (exec_move rfl rfl) ?_
    simp only [Act.put, List.setIfInBounds_toArray, List.set_cons_zero, List.set_cons_succ]
    refine wpList_op (wanted_none rfl) fun K9 HK9 => ?_
    go_wp2_with fail
    refine (New_ok (c := q) HR1.out HCC.out HM.out HZ.out).mono ?_
    rintro e w2 ⟨a, b, rfl, hd, hla, hlb, ht⟩
    refine HK9.out _ _ ?_
    clear HK9
    try simp only [Act.put, List.setIfInBounds_toArray, List.set_cons_zero, List.set_cons_succ]
    have HD4 := Lib.hid hd
    have HLB := Lib.hid (show W.heap.size ≤ b from Nat.le_trans HT1.out.size hlb)
    have HT4 := Lib.hid (HT1.out.trans ht fun _ _ e => e)
    have HL6 := Lib.hid hd.len
    have hm6 := hd.len.2
    rw [HLN.out] at hm6
    have y6 : (m : Int) ≤ 6 := by omega
    clear hd hla hlb ht hm6
    refine wpList_run (v := .tuple #[.pointer (some ⟨a, 0, none⟩), .int .i64 0]) (wanted_none rfl) (exec_move rfl rfl) ?_
    simp only [Act.put, List.setIfInBounds_toArray, List.set_cons_zero, List.set_cons_succ]
    refine wpList_run (v := .pointer (some ⟨a, 0, none⟩)) (wanted_none rfl) (ix_extract rfl rfl rfl) ?_
    simp only [Act.put, List.setIfInBounds_toArray, List.set_cons_zero, List.set_cons_succ]
    refine wpList_run (v := .int .i64 0) (wanted_none rfl) (ix_extract rfl rfl rfl) ?_
    simp only [Act.put, List.setIfInBounds_toArray, List.set_cons_zero, List.set_cons_succ]
    refine wpList_run (v := .pointer (some ⟨a, 0, none⟩)) (wanted_none rfl) (gx_assign rfl rfl) ?_
    simp only [Act.put, List.setIfInBounds_toArray, List.set_cons_zero, List.set_cons_succ]
    refine wpList_run (v := .int .i64 0) (wanted_none rfl) (gx_assign rfl rfl) ?_
    simp only [Act.put, List.setIfInBounds_toArray, List.set_cons_zero, List.set_cons_succ]
    go_upto_region 3 with fail
    refine wp_region_lit ?_
    refine wpList_run (v := .bool true) (wanted_none rfl) (exec_move rfl rfl) ?_
    simp only [Act.put, List.setIfInBounds_toArray, List.set_cons_zero, List.set_cons_succ]
    refine wpList_run (v := .bool false) (wanted_none rfl) (ix_not (b := true) rfl rfl) ?_
    simp only [Act.put, List.setIfInBounds_toArray, List.set_cons_zero, List.set_cons_succ]
    refine wpList_run (v := .bool false) (wanted_none rfl) (exec_move rfl rfl) ?_
    simp only [Act.put, List.setIfInBounds_toArray, List.set_cons_zero, List.set_cons_succ]
    refine wpList_run (v := .int .i64 0) rfl (exec_move rfl rfl) ?_
    simp only [Act.put, List.setIfInBounds_toArray, List.set_cons_zero, List.set_cons_succ]
    refine wpList_run (v := .bool false) rfl (ix_neq rfl rfl rfl (by decide)) ?_
    simp only [Act.put, List.setIfInBounds_toArray, List.set_cons_zero, List.set_cons_succ]
    refine wpList_run (v := .bool false) (wanted_none rfl) (ix_pickF rfl rfl rfl) ?_
    simp only [Act.put, List.setIfInBounds_toArray, List.set_cons_zero, List.set_cons_succ]
    go_upto_region 5 with fail
    refine wp_region_lit ?_
    refine wpList_run (v := .int .i64 0) (wanted_none rfl) (gx_assign rfl rfl) ?_
    simp only [Act.put, List.setIfInBounds_toArray, List.set_cons_zero, List.set_cons_succ]
    go_wp2_with fail
    go_loopg [10] 100 (fun gk iv wr => ∃ (i : Nat) (h : Card → Int), iv = .int .i64 (i : Int) ∧ i + gk = 100 ∧ Desk wr a b l i h ∧ Nil h pan ∧ Turn nowhere W wr)
    case atStart => exact ⟨0, _, rfl, rfl, HD4.out, fun _ => rfl, HT4.out⟩
    obtain ⟨i, h, rfl, hgk, hd, hnil, htr⟩ := hrel
    have HGK := Lib.hid hgk
    have HD := Lib.hid hd
    have HNIL := Lib.hid hnil
    have HTR := Lib.hid htr
    have HKR := Lib.hid (HK.out.still htr)
    have HRR := Lib.hid (HR.out.still htr)
    have yi : (i : Int) ≤ 100 := by omega
    clear hgk hd htr hnil
    by_cases hlt : i < n
    · have HLT := Lib.hid hlt
      have y3 : (i : Int) < (n : Int) := by omega
      clear hlt
      by_cases h100 : i < 100
      · have H100 := Lib.hid h100
        have y4 : (i : Int) < 100 := by omega
        clear h100
        obtain ⟨o, ho⟩ : ∃ o, os[i]? = some o := ⟨os[i]'(by rw [HOL.out]; exact HLT.out), List.getElem?_eq_getElem (by rw [HOL.out]; exact HLT.out)⟩
        obtain ⟨bA, oA, rfl, hrg⟩ := HKR.out.rng ho
        have HC := Lib.hid hrg
        have HOK := Lib.hid (HKR.out.ok o (List.mem_of_getElem? ho))
        clear hrg ho
        go_upto_region 6 with fail
        refine wp_region_lit ?_
        refine wpList_run (v := .int .i64 (i : Int)) (wanted_none rfl) (exec_move rfl rfl) ?_
        simp only [Act.put, List.setIfInBounds_toArray, List.set_cons_zero, List.set_cons_succ]
        refine wpList_run (v := .slice (some ⟨bA, oA, none⟩) n c) (wanted_none rfl) (exec_move rfl rfl) ?_
        simp only [Act.put, List.setIfInBounds_toArray, List.set_cons_zero, List.set_cons_succ]
        refine wpList_run (v := .int .i64 (n : Int)) (wanted_none rfl) (gx_len rfl rfl Try.underlying23) ?_
        simp only [Act.put, List.setIfInBounds_toArray, List.set_cons_zero, List.set_cons_succ]
        refine wpList_run (v := .bool true) (wanted_none rfl) (ix_lss rfl rfl rfl (decide_eq_true y3)) ?_
        simp only [Act.put, List.setIfInBounds_toArray, List.set_cons_zero, List.set_cons_succ]
        refine wpList_run (v := .bool true) (wanted_none rfl) (exec_move rfl rfl) ?_
        simp only [Act.put, List.setIfInBounds_toArray, List.set_cons_zero, List.set_cons_succ]
        refine wpList_run (v := .int .i64 (i : Int)) rfl (exec_move rfl rfl) ?_
        simp only [Act.put, List.setIfInBounds_toArray, List.set_cons_zero, List.set_cons_succ]
        refine wpList_run (v := .bool true) rfl (ix_lss rfl rfl rfl (decide_eq_true y4)) ?_
        simp only [Act.put, List.setIfInBounds_toArray, List.set_cons_zero, List.set_cons_succ]
        refine wpList_run (v := .bool true) (wanted_none rfl) (ix_pickT rfl rfl rfl) ?_
        simp only [Act.put, List.setIfInBounds_toArray, List.set_cons_zero, List.set_cons_succ]
        go_upto_region 8 with fail
        refine wp_region_lit ?_
        refine wpList_run (v := .slice (some ⟨bA, oA, none⟩) n c) (wanted_none rfl) (exec_move rfl rfl) ?_
        simp only [Act.put, List.setIfInBounds_toArray, List.set_cons_zero, List.set_cons_succ]
        refine wpList_run (v := .int .i64 (i : Int)) (wanted_none rfl) (exec_move rfl rfl) ?_
        simp only [Act.put, List.setIfInBounds_toArray, List.set_cons_zero, List.set_cons_succ]
        refine wpList_run (v := .pointer (some ⟨bA, oA + i * 4, none⟩)) (wanted_none rfl) (gx_iaddr (i := i) (sz := 4) rfl rfl rfl Try.underlying23 size_sop HLT.out rfl) ?_
        simp only [Act.put, List.setIfInBounds_toArray, List.set_cons_zero, List.set_cons_succ]
        refine wpList_run (v := .agg o.cells.toArray) (wanted_none rfl) (gx_loads rfl rfl HC.out Try.underlying37 rfl (by rw [size_sop]; rfl)) ?_
        simp only [Act.put, List.setIfInBounds_toArray, List.set_cons_zero, List.set_cons_succ]
        refine wpList_run (v := .pointer (some ⟨wr.heap.size, 0, none⟩)) (w' := wr.alloc (.cells #[.int .i64 0, .int .i64 0, .int .i64 0, .string ByteArray.empty] 37)) (wanted_none rfl) (gx_alloc rfl (zero_sop _)) ?_
        simp only [Act.put, List.setIfInBounds_toArray, List.set_cons_zero, List.set_cons_succ]
        have hb_ := Blk.new wr 37 #[.int .i64 0, .int .i64 0, .int .i64 0, .string ByteArray.empty]
        have ht_ := (Turn.refl nowhere wr).alloc (.cells #[.int .i64 0, .int .i64 0, .int .i64 0, .string ByteArray.empty] 37)
        obtain ⟨v, hg_⟩ : ∃ g, g = wr.heap.size := ⟨_, rfl⟩
        rw [← hg_] at hb_ ⊢
        have HLv := Lib.hid (show wr.heap.size ≤ v from by omega)
        clear hg_
        generalize wr.alloc (.cells #[.int .i64 0, .int .i64 0, .int .i64 0, .string ByteArray.empty] 37) = w3 at *
        have HBv := Lib.hid hb_
        have HT3 := Lib.hid ht_
        clear hb_ ht_
        refine wpList_store_row (wanted_none rfl) 37 (.tmp 11) (.tmp 42) rfl (o.cells.toArray) HBv.out rfl rfl (rfl) (by rw [size_sop] <;> rfl) (sop_one o) ?_
        intro w4 hb_ ht_
        have HBv4 := Lib.hid hb_
        have HT4 := Lib.hid ht_
        clear hb_ ht_
        simp only [Act.put, List.setIfInBounds_toArray, List.set_cons_zero, List.set_cons_succ]
        have HT34 := Lib.hid (HT3.out.newer HLv.out HT4.out)
        clear HBv HT3 HT4
        have HD4r := Lib.hid (HD.out.still HT34.out)
        have HT4r := Lib.hid (HTR.out.trans HT34.out fun _ _ e => e)
        have HR4r := Lib.hid (HRR.out.still HT34.out)
        go_upto_region 9 with fail
        refine wp_region_lit ?_
        refine wpList_run (v := .pointer (some ⟨v, 0, none⟩)) (wanted_none rfl) (exec_field (off := 0) (d := 0) rfl rfl (by kernel_rfl)) ?_
        simp only [Act.put, List.setIfInBounds_toArray, List.set_cons_zero, List.set_cons_succ]
        refine wpList_run (v := .int .i64 o.kind) (wanted_none rfl) (exec_load1 rfl rfl (by kernel_rfl) (HBv4.out.cell 0)) ?_
        simp only [Act.put, List.setIfInBounds_toArray, List.set_cons_zero, List.set_cons_succ]
        refine wpList_op (wanted_none rfl) fun K9 HK9 => ?_
        go_wp2_with fail
        refine (kind_walk o.kind w4 HOK.out.1).mono ?_
        rintro e w4 ⟨kk, rfl, hk8, rfl⟩
        refine HK9.out _ _ ?_
        clear HK9
        try simp only [Act.put, List.setIfInBounds_toArray, List.set_cons_zero, List.set_cons_succ]
        by_cases h6 : kk = 6
        · as_aux_lemma =>
            subst h6
            refine wpList_run (v := .bool true) (wanted_none rfl) (ix_eql rfl rfl rfl (by decide)) ?_
            simp only [Act.put, List.setIfInBounds_toArray, List.set_cons_zero, List.set_cons_succ]
            go_upto_region 10 with fail
            refine wp_region_lit ?_
            refine wpList_run (v := .pointer (some ⟨a, 0, none⟩)) (wanted_none rfl) (exec_move rfl rfl) ?_
            simp only [Act.put, List.setIfInBounds_toArray, List.set_cons_zero, List.set_cons_succ]
            refine wpList_op (wanted_none rfl) fun K9 HK9 => ?_
            go_wp2_with fail
            refine (Reset_walk HD4r.out).mono ?_
            rintro e w5 ⟨rfl, hd, ht⟩
            refine HK9.out _ _ ?_
            clear HK9
            try simp only [Act.put, List.setIfInBounds_toArray, List.set_cons_zero, List.set_cons_succ]
            have HD5 := Lib.hid (hd.mono (Nat.zero_le (i + 1)))
            have HT5 := Lib.hid (HT4r.out.newer HLB.out ht)
            clear hd ht
            go_upto_region 7 with fail
            refine wp_region_lit ?_
            refine wpList_run (v := .int .i64 (i : Int)) (wanted_none rfl) (exec_move rfl rfl) ?_
            simp only [Act.put, List.setIfInBounds_toArray, List.set_cons_zero, List.set_cons_succ]
            refine wpList_run (v := .int .i64 ((i + 1 : Nat) : Int)) (wanted_none rfl) (ix_add rfl rfl rfl (by omega) (by omega)) ?_
            simp only [Act.put, List.setIfInBounds_toArray, List.set_cons_zero, List.set_cons_succ]
            refine wpList_run (v := .int .i64 ((i + 1 : Nat) : Int)) (wanted_none rfl) (gx_assign rfl rfl) ?_
            simp only [Act.put, List.setIfInBounds_toArray, List.set_cons_zero, List.set_cons_succ]
            go_wp2_with fail
            go_roundg (gk - 1)
            case measure => have := HGK.out; have := H100.out; omega
            case rel => exact ⟨i + 1, _, rfl, by have := HGK.out; have := H100.out; omega, HD5.out, fun _ => rfl, HT5.out⟩
        · as_aux_lemma =>
            have H6 := Lib.hid (show ¬ (kk : Int) = 6 from by omega)
            clear h6 hk8
            refine wpList_run (v := .bool false) (wanted_none rfl) (ix_eql rfl rfl rfl (decide_eq_false H6.out)) ?_
            simp only [Act.put, List.setIfInBounds_toArray, List.set_cons_zero, List.set_cons_succ]
            obtain ⟨was, hwas⟩ : ∃ x, x = h (o.mem, o.pan) := ⟨_, rfl⟩
            have HWAS := Lib.hid hwas
            have hokw := HD4r.out.okh (o.mem, o.pan)
            rw [← hwas] at hokw
            have u0 : 0 ≤ was := hokw.1
            have u1 : was ≤ 999999999999 := hokw.2
            clear hwas hokw
            go_upto_region 11 with fail
            refine wp_region_lit ?_
            refine wpList_run (v := .pointer (some ⟨a, 0, none⟩)) (wanted_none rfl) (exec_move rfl rfl) ?_
            simp only [Act.put, List.setIfInBounds_toArray, List.set_cons_zero, List.set_cons_succ]
            refine wpList_run (v := .pointer (some ⟨v, 1, none⟩)) (wanted_none rfl) (exec_field (off := 0) (d := 1) rfl rfl (by kernel_rfl)) ?_
            simp only [Act.put, List.setIfInBounds_toArray, List.set_cons_zero, List.set_cons_succ]
            refine wpList_run (v := .int .i64 o.mem) (wanted_none rfl) (exec_load1 rfl rfl (by kernel_rfl) (HBv4.out.cell 1)) ?_
            simp only [Act.put, List.setIfInBounds_toArray, List.set_cons_zero, List.set_cons_succ]
            refine wpList_run (v := .pointer (some ⟨v, 3, none⟩)) (wanted_none rfl) (exec_field (off := 0) (d := 3) rfl rfl (by kernel_rfl)) ?_
            simp only [Act.put, List.setIfInBounds_toArray, List.set_cons_zero, List.set_cons_succ]
            refine wpList_run (v := strV o.pan) (wanted_none rfl) (exec_load1 rfl rfl (by kernel_rfl) (HBv4.out.cell 3)) ?_
            simp only [Act.put, List.setIfInBounds_toArray, List.set_cons_zero, List.set_cons_succ]
            refine wpList_op (wanted_none rfl) fun K9 HK9 => ?_
            go_wp2_with fail
            refine (Had_at HD4r.out HOK.out.2.2 HWAS.out.symm).mono ?_
            rintro e w4 ⟨rfl, rfl⟩
            refine HK9.out _ _ ?_
            clear HK9
            try simp only [Act.put, List.setIfInBounds_toArray, List.set_cons_zero, List.set_cons_succ]
            refine wpList_run (v := .int .i64 was) (wanted_none rfl) (gx_assign rfl rfl) ?_
            simp only [Act.put, List.setIfInBounds_toArray, List.set_cons_zero, List.set_cons_succ]
            go_upto_region 12 with fail
            refine wp_region_lit ?_
            refine wpList_run (v := .pointer (some ⟨a, 0, none⟩)) (wanted_none rfl) (exec_move rfl rfl) ?_
            simp only [Act.put, List.setIfInBounds_toArray, List.set_cons_zero, List.set_cons_succ]
            refine wpList_run (v := .pointer (some ⟨v, 1, none⟩)) (wanted_none rfl) (exec_field (off := 0) (d := 1) rfl rfl (by kernel_rfl)) ?_
            simp only [Act.put, List.setIfInBounds_toArray, List.set_cons_zero, List.set_cons_succ]
            refine wpList_run (v := .int .i64 o.mem) (wanted_none rfl) (exec_load1 rfl rfl (by kernel_rfl) (HBv4.out.cell 1)) ?_
            simp only [Act.put, List.setIfInBounds_toArray, List.set_cons_zero, List.set_cons_succ]
            refine wpList_run (v := .pointer (some ⟨v, 3, none⟩)) (wanted_none rfl) (exec_field (off := 0) (d := 3) rfl rfl (by kernel_rfl)) ?_
            simp only [Act.put, List.setIfInBounds_toArray, List.set_cons_zero, List.set_cons_succ]
            refine wpList_run (v := strV o.pan) (wanted_none rfl) (exec_load1 rfl rfl (by kernel_rfl) (HBv4.out.cell 3)) ?_
            simp only [Act.put, List.setIfInBounds_toArray, List.set_cons_zero, List.set_cons_succ]
            refine wpList_run (v := .pointer (some ⟨v, 2, none⟩)) (wanted_none rfl) (exec_field (off := 0) (d := 2) rfl rfl (by kernel_rfl)) ?_
            simp only [Act.put, List.setIfInBounds_toArray, List.set_cons_zero, List.set_cons_succ]
            refine wpList_run (v := .int .i64 o.amt) (wanted_none rfl) (exec_load1 rfl rfl (by kernel_rfl) (HBv4.out.cell 2)) ?_
            simp only [Act.put, List.setIfInBounds_toArray, List.set_cons_zero, List.set_cons_succ]
            obtain ⟨E, hE⟩ : ∃ x, x = Si.askE l h (o.mem, o.pan) o.amt := ⟨_, rfl⟩
            have HE := Lib.hid hE.symm
            clear hE
            refine wpList_op (wanted_none rfl) fun K9 HK9 => ?_
            go_wp2_with fail
            refine (Ask_at HD4r.out (by have := HGK.out; omega) HOK.out.2.2 HE.out rfl).mono ?_
            rintro e w5 ⟨rfl, hd, ht⟩
            refine HK9.out _ _ ?_
            clear HK9
            try simp only [Act.put, List.setIfInBounds_toArray, List.set_cons_zero, List.set_cons_succ]
            have HD5 := Lib.hid hd
            have HBv5 := Lib.hid (HBv4.out.turn ht fun e => siw_blk HBv4.out (by decide) (by have e : v = b := e; rw [e]; exact HD4r.out.siw))
            have HT5 := Lib.hid (HT4r.out.newer HLB.out ht)
            have HR5 := Lib.hid (HR.out.still HT5.out)
            clear hd ht
            obtain ⟨now, hnow⟩ : ∃ x, x = Si.askH l h (o.mem, o.pan) o.amt (o.mem, o.pan) := ⟨_, rfl⟩
            have HNOW := Lib.hid hnow.symm
            clear hnow
            refine wpList_run (v := .int .i64 E) (wanted_none rfl) (gx_assign rfl rfl) ?_
            simp only [Act.put, List.setIfInBounds_toArray, List.set_cons_zero, List.set_cons_succ]
            go_upto_region 13 with fail
            refine wp_region_lit ?_
            refine wpList_run (v := .pointer (some ⟨a, 0, none⟩)) (wanted_none rfl) (exec_move rfl rfl) ?_
            simp only [Act.put, List.setIfInBounds_toArray, List.set_cons_zero, List.set_cons_succ]
            refine wpList_run (v := .pointer (some ⟨v, 1, none⟩)) (wanted_none rfl) (exec_field (off := 0) (d := 1) rfl rfl (by kernel_rfl)) ?_
            simp only [Act.put, List.setIfInBounds_toArray, List.set_cons_zero, List.set_cons_succ]
            refine wpList_run (v := .int .i64 o.mem) (wanted_none rfl) (exec_load1 rfl rfl (by kernel_rfl) (HBv5.out.cell 1)) ?_
            simp only [Act.put, List.setIfInBounds_toArray, List.set_cons_zero, List.set_cons_succ]
            refine wpList_run (v := .pointer (some ⟨v, 3, none⟩)) (wanted_none rfl) (exec_field (off := 0) (d := 3) rfl rfl (by kernel_rfl)) ?_
            simp only [Act.put, List.setIfInBounds_toArray, List.set_cons_zero, List.set_cons_succ]
            refine wpList_run (v := strV o.pan) (wanted_none rfl) (exec_load1 rfl rfl (by kernel_rfl) (HBv5.out.cell 3)) ?_
            simp only [Act.put, List.setIfInBounds_toArray, List.set_cons_zero, List.set_cons_succ]
            refine wpList_op (wanted_none rfl) fun K9 HK9 => ?_
            go_wp2_with fail
            refine (Had_at HD5.out HOK.out.2.2 HNOW.out).mono ?_
            rintro e w5 ⟨rfl, rfl⟩
            refine HK9.out _ _ ?_
            clear HK9
            try simp only [Act.put, List.setIfInBounds_toArray, List.set_cons_zero, List.set_cons_succ]
            refine wpList_run (v := .int .i64 now) (wanted_none rfl) (gx_assign rfl rfl) ?_
            simp only [Act.put, List.setIfInBounds_toArray, List.set_cons_zero, List.set_cons_succ]
            by_cases he : E = 0
            · subst he
              obtain ⟨k, s, hk1, hk2, hs, hoa, hs1, hs2, hH⟩ := ask_facts HE.out
              have hk1 : o.mem = (k : Int) := hk1
              have hs2 : h (o.mem, o.pan) + o.amt ≤ s.2 := hs2
              rw [hH] at HD5
              have HNW := Lib.hid (show now = was + o.amt from by rw [← HNOW.out, hH, HWAS.out]; unfold Si.put; rw [if_pos rfl])
              rw [← HWAS.out] at hs2
              have HK1 := Lib.hid hk1
              have HKM := Lib.hid (show k < m from by rw [← HLN.out]; exact hk2)
              have v0 : 0 ≤ o.amt := hoa.1
              have v1 : o.amt ≤ 999999999999 := hoa.2
              have v2 : o.amt ≤ s.1 := hs1
              have v3 : was + o.amt ≤ s.2 := hs2
              have v4 : (k : Int) < (m : Int) := by rw [HLN.out] at hk2; omega
              obtain ⟨bL, oL, rfl, hrg⟩ := lim_rng HR5.out hs
              have HRG := Lib.hid hrg
              clear hk1 hk2 hs hoa hs1 hs2 hH hrg
              go_upto_region 14 with fail
              refine wp_region_lit ?_
              refine wpList_run (v := .int .i64 0) (wanted_none rfl) (exec_move rfl rfl) ?_
              simp only [Act.put, List.setIfInBounds_toArray, List.set_cons_zero, List.set_cons_succ]
              refine wpList_run (v := .bool false) (wanted_none rfl) (ix_neq rfl rfl rfl (by decide)) ?_
              simp only [Act.put, List.setIfInBounds_toArray, List.set_cons_zero, List.set_cons_succ]
              have HBd := Lib.hid (show Blk w5.drew v 37 o.cells.toArray from HBv5.out)
              have HRGd := Lib.hid (show w5.drew.rangeAt bL (oL + k * 2) (limC s) from HRG.out)
              have HDd := Lib.hid (HD5.out.still (Turn.refl nowhere w5).drew)
              have HTd := Lib.hid (HT5.out.drew)
              clear HBv5 HRG HD5
              go_upto_region 17 with fail
              refine wp_region_alw (fun W9 => W9 = w5.drew) (by kernel_rfl) ?_
              have hS0 : (fun W9 => W9 = w5.drew) w5.drew := rfl
              generalize w5.drew = wd at *
              refine alw_take (i := 0) (v := .int .i64 now) rfl (by kernel_rfl) (by kernel_rfl) (fun _ _ _ h => h) (.inl ⟨by rfl, fun W hW => exec_move rfl rfl⟩) hS0 ?_
              simp only [Act.put, List.setIfInBounds_toArray, List.set_cons_zero, List.set_cons_succ]
              refine alw_take (i := 1) (v := .int .i64 was) rfl (by kernel_rfl) (by kernel_rfl) (fun _ _ _ h => h) (.inl ⟨by rfl, fun W hW => exec_move rfl rfl⟩) hS0 ?_
              simp only [Act.put, List.setIfInBounds_toArray, List.set_cons_zero, List.set_cons_succ]
              refine alw_take (i := 2) (v := .pointer (some ⟨v, 2, none⟩)) rfl (by kernel_rfl) (by kernel_rfl) (fun _ _ _ h => h) (.inl ⟨by rfl, fun W hW => exec_field (off := 0) (d := 2) rfl rfl (by kernel_rfl)⟩) hS0 ?_
              simp only [Act.put, List.setIfInBounds_toArray, List.set_cons_zero, List.set_cons_succ]
              refine alw_take (i := 3) (v := .int .i64 o.amt) rfl (by kernel_rfl) (by kernel_rfl) (fun _ _ _ h => h) (.inl ⟨by rfl, fun W hW => by subst hW; exact exec_load1 rfl rfl (by kernel_rfl) (HBd.out.cell 2)⟩) hS0 ?_
              simp only [Act.put, List.setIfInBounds_toArray, List.set_cons_zero, List.set_cons_succ]
              refine alw_take (i := 4) (v := .int .i64 (was + o.amt)) rfl (by kernel_rfl) (by kernel_rfl) (fun _ _ _ h => h) (.inl ⟨by rfl, fun W hW => ix_add rfl rfl rfl rfl ⟨by omega, by omega⟩⟩) hS0 ?_
              simp only [Act.put, List.setIfInBounds_toArray, List.set_cons_zero, List.set_cons_succ]
              refine alw_take (i := 5) (v := .bool false) rfl (by kernel_rfl) (by kernel_rfl) (fun _ _ _ h => h) (.inl ⟨by rfl, fun W hW => ix_neq rfl rfl rfl (decide_eq_false (fun e => e HNW.out))⟩) hS0 ?_
              simp only [Act.put, List.setIfInBounds_toArray, List.set_cons_zero, List.set_cons_succ]
              refine alw_take (i := 6) (v := .bool false) rfl (by kernel_rfl) (by kernel_rfl) (fun _ _ _ h => h) (.inl ⟨by rfl, fun W hW => exec_move rfl rfl⟩) hS0 ?_
              simp only [Act.put, List.setIfInBounds_toArray, List.set_cons_zero, List.set_cons_succ]
              refine alw_take (i := 7) (v := .pointer (some ⟨v, 2, none⟩)) rfl (by kernel_rfl) (by kernel_rfl) (fun _ _ _ h => h) (.inl ⟨by rfl, fun W hW => exec_field (off := 0) (d := 2) rfl rfl (by kernel_rfl)⟩) hS0 ?_
              simp only [Act.put, List.setIfInBounds_toArray, List.set_cons_zero, List.set_cons_succ]
              refine alw_take (i := 8) (v := .int .i64 o.amt) rfl (by kernel_rfl) (by kernel_rfl) (fun _ _ _ h => h) (.inl ⟨by rfl, fun W hW => by subst hW; exact exec_load1 rfl rfl (by kernel_rfl) (HBd.out.cell 2)⟩) hS0 ?_
              simp only [Act.put, List.setIfInBounds_toArray, List.set_cons_zero, List.set_cons_succ]
              refine alw_take (i := 9) (v := .bool false) rfl (by kernel_rfl) (by kernel_rfl) (fun _ _ _ h => h) (.inl ⟨by rfl, fun W hW => ix_lss rfl rfl rfl (decide_eq_false (by omega))⟩) hS0 ?_
              simp only [Act.put, List.setIfInBounds_toArray, List.set_cons_zero, List.set_cons_succ]
              refine alw_take (i := 10) (v := .bool false) rfl (by kernel_rfl) (by kernel_rfl) (fun _ _ _ h => h) (.inl ⟨by rfl, fun W hW => ix_pickF rfl rfl rfl⟩) hS0 ?_
              simp only [Act.put, List.setIfInBounds_toArray, List.set_cons_zero, List.set_cons_succ]
              refine alw_take (i := 11) (v := .bool false) rfl (by kernel_rfl) (by kernel_rfl) (fun _ _ _ h => h) (.inl ⟨by rfl, fun W hW => exec_move rfl rfl⟩) hS0 ?_
              simp only [Act.put, List.setIfInBounds_toArray, List.set_cons_zero, List.set_cons_succ]
              refine alw_take (i := 12) (v := .pointer (some ⟨v, 1, none⟩)) rfl (by kernel_rfl) (by kernel_rfl) (fun _ _ _ h => h) (.inl ⟨by rfl, fun W hW => exec_field (off := 0) (d := 1) rfl rfl (by kernel_rfl)⟩) hS0 ?_
              simp only [Act.put, List.setIfInBounds_toArray, List.set_cons_zero, List.set_cons_succ]
              refine alw_take (i := 13) (v := .int .i64 (k : Int)) rfl (by kernel_rfl) (by kernel_rfl) (fun _ _ _ h => h) (.inl ⟨by rfl, fun W hW => by subst hW; exact exec_load1 rfl rfl (by kernel_rfl) (by rw [HBd.out.cell 1]; exact congrArg (fun x => some (Value.int .i64 x)) HK1.out)⟩) hS0 ?_
              simp only [Act.put, List.setIfInBounds_toArray, List.set_cons_zero, List.set_cons_succ]
              refine alw_take (i := 14) (v := .bool false) rfl (by kernel_rfl) (by kernel_rfl) (fun _ _ _ h => h) (.inl ⟨by rfl, fun W hW => ix_lss rfl rfl rfl (decide_eq_false (by omega))⟩) hS0 ?_
              simp only [Act.put, List.setIfInBounds_toArray, List.set_cons_zero, List.set_cons_succ]
              refine alw_take (i := 15) (v := .bool false) rfl (by kernel_rfl) (by kernel_rfl) (fun _ _ _ h => h) (.inl ⟨by rfl, fun W hW => ix_pickF rfl rfl rfl⟩) hS0 ?_
              simp only [Act.put, List.setIfInBounds_toArray, List.set_cons_zero, List.set_cons_succ]
              refine alw_take (i := 16) (v := .bool false) rfl (by kernel_rfl) (by kernel_rfl) (fun _ _ _ h => h) (.inl ⟨by rfl, fun W hW => exec_move rfl rfl⟩) hS0 ?_
              simp only [Act.put, List.setIfInBounds_toArray, List.set_cons_zero, List.set_cons_succ]
              refine alw_take (i := 17) (v := .pointer (some ⟨v, 1, none⟩)) rfl (by kernel_rfl) (by kernel_rfl) (fun _ _ _ h => h) (.inl ⟨by rfl, fun W hW => exec_field (off := 0) (d := 1) rfl rfl (by kernel_rfl)⟩) hS0 ?_
              simp only [Act.put, List.setIfInBounds_toArray, List.set_cons_zero, List.set_cons_succ]
              refine alw_take (i := 18) (v := .int .i64 (k : Int)) rfl (by kernel_rfl) (by kernel_rfl) (fun _ _ _ h => h) (.inl ⟨by rfl, fun W hW => by subst hW; exact exec_load1 rfl rfl (by kernel_rfl) (by rw [HBd.out.cell 1]; exact congrArg (fun x => some (Value.int .i64 x)) HK1.out)⟩) hS0 ?_
              simp only [Act.put, List.setIfInBounds_toArray, List.set_cons_zero, List.set_cons_succ]
              refine alw_take (i := 19) (v := .slice (some ⟨bL, oL, none⟩) m q) rfl (by kernel_rfl) (by kernel_rfl) (fun _ _ _ h => h) (.inl ⟨by rfl, fun W hW => exec_move rfl rfl⟩) hS0 ?_
              simp only [Act.put, List.setIfInBounds_toArray, List.set_cons_zero, List.set_cons_succ]
              refine alw_take (i := 20) (v := .int .i64 (m : Int)) rfl (by kernel_rfl) (by kernel_rfl) (fun _ _ _ h => h) (.inl ⟨by rfl, fun W hW => gx_len rfl rfl Try.underlying22⟩) hS0 ?_
              simp only [Act.put, List.setIfInBounds_toArray, List.set_cons_zero, List.set_cons_succ]
              refine alw_take (i := 21) (v := .bool false) rfl (by kernel_rfl) (by kernel_rfl) (fun _ _ _ h => h) (.inl ⟨by rfl, fun W hW => ix_geq rfl rfl rfl (decide_eq_false (by omega))⟩) hS0 ?_
              simp only [Act.put, List.setIfInBounds_toArray, List.set_cons_zero, List.set_cons_succ]
              refine alw_take (i := 22) (v := .bool false) rfl (by kernel_rfl) (by kernel_rfl) (fun _ _ _ h => h) (.inl ⟨by rfl, fun W hW => ix_pickF rfl rfl rfl⟩) hS0 ?_
              simp only [Act.put, List.setIfInBounds_toArray, List.set_cons_zero, List.set_cons_succ]
              refine alw_take (i := 23) (v := .bool false) rfl (by kernel_rfl) (by kernel_rfl) (fun _ _ _ h => h) (.inl ⟨by rfl, fun W hW => exec_move rfl rfl⟩) hS0 ?_
              simp only [Act.put, List.setIfInBounds_toArray, List.set_cons_zero, List.set_cons_succ]
              refine alw_take (i := 24) (v := .int .i64 now) rfl (by kernel_rfl) (by kernel_rfl) (fun _ _ _ h => h) (.inl ⟨by rfl, fun W hW => exec_move rfl rfl⟩) hS0 ?_
              simp only [Act.put, List.setIfInBounds_toArray, List.set_cons_zero, List.set_cons_succ]
              refine alw_take (i := 25) (v := .slice (some ⟨bL, oL, none⟩) m q) rfl (by kernel_rfl) (by kernel_rfl) (fun _ _ _ h => h) (.inl ⟨by rfl, fun W hW => exec_move rfl rfl⟩) hS0 ?_
              simp only [Act.put, List.setIfInBounds_toArray, List.set_cons_zero, List.set_cons_succ]
              refine alw_take (i := 26) (v := .pointer (some ⟨v, 1, none⟩)) rfl (by kernel_rfl) (by kernel_rfl) (fun _ _ _ h => h) (.inl ⟨by rfl, fun W hW => exec_field (off := 0) (d := 1) rfl rfl (by kernel_rfl)⟩) hS0 ?_
              simp only [Act.put, List.setIfInBounds_toArray, List.set_cons_zero, List.set_cons_succ]
              refine alw_take (i := 27) (v := .int .i64 (k : Int)) rfl (by kernel_rfl) (by kernel_rfl) (fun _ _ _ h => h) (.inl ⟨by rfl, fun W hW => by subst hW; exact exec_load1 rfl rfl (by kernel_rfl) (by rw [HBd.out.cell 1]; exact congrArg (fun x => some (Value.int .i64 x)) HK1.out)⟩) hS0 ?_
              simp only [Act.put, List.setIfInBounds_toArray, List.set_cons_zero, List.set_cons_succ]
              refine alw_take (i := 28) (v := .pointer (some ⟨bL, oL + k * 2, none⟩)) rfl (by kernel_rfl) (by kernel_rfl) (fun _ _ _ h => h) (.inl ⟨by rfl, fun W hW => gx_iaddr (i := k) (sz := 2) rfl rfl rfl Try.underlying22 size_st HKM.out rfl⟩) hS0 ?_
              simp only [Act.put, List.setIfInBounds_toArray, List.set_cons_zero, List.set_cons_succ]
              refine alw_take (i := 29) (v := .pointer (some ⟨bL, oL + k * 2 + 1, none⟩)) rfl (by kernel_rfl) (by kernel_rfl) (fun _ _ _ h => h) (.inl ⟨by rfl, fun W hW => exec_field (off := oL + k * 2) (d := 1) rfl rfl (by kernel_rfl)⟩) hS0 ?_
              simp only [Act.put, List.setIfInBounds_toArray, List.set_cons_zero, List.set_cons_succ]
              refine alw_take (i := 30) (v := .int .i64 s.2) rfl (by kernel_rfl) (by kernel_rfl) (fun _ _ _ h => h) (.inl ⟨by rfl, fun W hW => by subst hW; exact exec_load1 rfl rfl (by kernel_rfl) (HRGd.out 1 _ rfl)⟩) hS0 ?_
              simp only [Act.put, List.setIfInBounds_toArray, List.set_cons_zero, List.set_cons_succ]
              refine alw_take (i := 31) (v := .bool false) rfl (by kernel_rfl) (by kernel_rfl) (fun _ _ _ h => h) (.inl ⟨by rfl, fun W hW => ix_gtr rfl rfl rfl (decide_eq_false (by have := HNW.out; omega))⟩) hS0 ?_
              simp only [Act.put, List.setIfInBounds_toArray, List.set_cons_zero, List.set_cons_succ]
              refine alw_take (i := 32) (v := .bool false) rfl (by kernel_rfl) (by kernel_rfl) (fun _ _ _ h => h) (.inl ⟨by rfl, fun W hW => ix_pickF rfl rfl rfl⟩) hS0 ?_
              simp only [Act.put, List.setIfInBounds_toArray, List.set_cons_zero, List.set_cons_succ]
              refine alw_take (i := 33) (v := .bool false) rfl (by kernel_rfl) (by kernel_rfl) (fun _ _ _ h => h) (.inl ⟨by rfl, fun W hW => exec_move rfl rfl⟩) hS0 ?_
              simp only [Act.put, List.setIfInBounds_toArray, List.set_cons_zero, List.set_cons_succ]
              refine alw_take (i := 34) (v := .pointer (some ⟨v, 2, none⟩)) rfl (by kernel_rfl) (by kernel_rfl) (fun _ _ _ h => h) (.inl ⟨by rfl, fun W hW => exec_field (off := 0) (d := 2) rfl rfl (by kernel_rfl)⟩) hS0 ?_
              simp only [Act.put, List.setIfInBounds_toArray, List.set_cons_zero, List.set_cons_succ]
              refine alw_take (i := 35) (v := .int .i64 o.amt) rfl (by kernel_rfl) (by kernel_rfl) (fun _ _ _ h => h) (.inl ⟨by rfl, fun W hW => by subst hW; exact exec_load1 rfl rfl (by kernel_rfl) (HBd.out.cell 2)⟩) hS0 ?_
              simp only [Act.put, List.setIfInBounds_toArray, List.set_cons_zero, List.set_cons_succ]
              refine alw_take (i := 36) (v := .slice (some ⟨bL, oL, none⟩) m q) rfl (by kernel_rfl) (by kernel_rfl) (fun _ _ _ h => h) (.inl ⟨by rfl, fun W hW => exec_move rfl rfl⟩) hS0 ?_
              simp only [Act.put, List.setIfInBounds_toArray, List.set_cons_zero, List.set_cons_succ]
              refine alw_take (i := 37) (v := .pointer (some ⟨v, 1, none⟩)) rfl (by kernel_rfl) (by kernel_rfl) (fun _ _ _ h => h) (.inl ⟨by rfl, fun W hW => exec_field (off := 0) (d := 1) rfl rfl (by kernel_rfl)⟩) hS0 ?_
              simp only [Act.put, List.setIfInBounds_toArray, List.set_cons_zero, List.set_cons_succ]
              refine alw_take (i := 38) (v := .int .i64 (k : Int)) rfl (by kernel_rfl) (by kernel_rfl) (fun _ _ _ h => h) (.inl ⟨by rfl, fun W hW => by subst hW; exact exec_load1 rfl rfl (by kernel_rfl) (by rw [HBd.out.cell 1]; exact congrArg (fun x => some (Value.int .i64 x)) HK1.out)⟩) hS0 ?_
              simp only [Act.put, List.setIfInBounds_toArray, List.set_cons_zero, List.set_cons_succ]
              refine alw_take (i := 39) (v := .pointer (some ⟨bL, oL + k * 2, none⟩)) rfl (by kernel_rfl) (by kernel_rfl) (fun _ _ _ h => h) (.inl ⟨by rfl, fun W hW => gx_iaddr (i := k) (sz := 2) rfl rfl rfl Try.underlying22 size_st HKM.out rfl⟩) hS0 ?_
              simp only [Act.put, List.setIfInBounds_toArray, List.set_cons_zero, List.set_cons_succ]
              refine alw_take (i := 40) (v := .pointer (some ⟨bL, oL + k * 2 + 0, none⟩)) rfl (by kernel_rfl) (by kernel_rfl) (fun _ _ _ h => h) (.inl ⟨by rfl, fun W hW => exec_field (off := oL + k * 2) (d := 0) rfl rfl (by kernel_rfl)⟩) hS0 ?_
              simp only [Act.put, List.setIfInBounds_toArray, List.set_cons_zero, List.set_cons_succ]
              refine alw_take (i := 41) (v := .int .i64 s.1) rfl (by kernel_rfl) (by kernel_rfl) (fun _ _ _ h => h) (.inl ⟨by rfl, fun W hW => by subst hW; exact exec_load1 rfl rfl (by kernel_rfl) (HRGd.out 0 _ rfl)⟩) hS0 ?_
              simp only [Act.put, List.setIfInBounds_toArray, List.set_cons_zero, List.set_cons_succ]
              refine alw_take (i := 42) (v := .bool false) rfl (by kernel_rfl) (by kernel_rfl) (fun _ _ _ h => h) (.inl ⟨by rfl, fun W hW => ix_gtr rfl rfl rfl (decide_eq_false (by omega))⟩) hS0 ?_
              simp only [Act.put, List.setIfInBounds_toArray, List.set_cons_zero, List.set_cons_succ]
              refine alw_take (i := 43) (v := .bool false) rfl (by kernel_rfl) (by kernel_rfl) (fun _ _ _ h => h) (.inl ⟨by rfl, fun W hW => ix_pickF rfl rfl rfl⟩) hS0 ?_
              simp only [Act.put, List.setIfInBounds_toArray, List.set_cons_zero, List.set_cons_succ]
              refine alw_done rfl ?_
              refine NoPanic.normal ?_
              clear hS0
              try simp only [Act.put, List.setIfInBounds_toArray, List.set_cons_zero, List.set_cons_succ]
              go_upto_region 19 with fail
              refine wp_region_lit ?_
              refine wpList_run (v := .pointer (some ⟨v, 3, none⟩)) (wanted_none rfl) (exec_field (off := 0) (d := 3) rfl rfl (by kernel_rfl)) ?_
              simp only [Act.put, List.setIfInBounds_toArray, List.set_cons_zero, List.set_cons_succ]
              refine wpList_run (v := strV o.pan) (wanted_none rfl) (exec_load1 rfl rfl (by kernel_rfl) (HBd.out.cell 3)) ?_
              simp only [Act.put, List.setIfInBounds_toArray, List.set_cons_zero, List.set_cons_succ]
              refine wpList_run (v := strV pan) (wanted_none rfl) (exec_move rfl rfl) ?_
              simp only [Act.put, List.setIfInBounds_toArray, List.set_cons_zero, List.set_cons_succ]
              by_cases hpp : o.pan = pan
              · have HPP := Lib.hid hpp
                clear hpp
                refine wpList_run (v := .bool true) (wanted_none rfl) ((exec_seql rfl rfl rfl).trans (by rw [beq_iff_eq.2 HPP.out])) ?_
                simp only [Act.put, List.setIfInBounds_toArray, List.set_cons_zero, List.set_cons_succ]
                go_upto_region 20 with fail
                refine wp_region_lit ?_
                refine wpList_run (v := .bool true) (wanted_none rfl) (gx_assign rfl rfl) ?_
                simp only [Act.put, List.setIfInBounds_toArray, List.set_cons_zero, List.set_cons_succ]
                go_wp2_with fail
                go_ret
                exact ⟨rfl, HTd.out⟩
              · have HPP := Lib.hid hpp
                have HNIL2 := Lib.hid (nil_put HNIL.out (c := (o.mem, o.pan)) (x := h (o.mem, o.pan) + o.amt) hpp)
                clear hpp
                refine wpList_run (v := .bool false) (wanted_none rfl) ((exec_seql rfl rfl rfl).trans (by rw [beq_eq_false_iff_ne.2 HPP.out])) ?_
                simp only [Act.put, List.setIfInBounds_toArray, List.set_cons_zero, List.set_cons_succ]
                go_upto_region 21 with fail
                refine wp_region_lit ?_
                refine wpList_run (v := .int .i64 0) (wanted_none rfl) (gx_assign rfl rfl) ?_
                simp only [Act.put, List.setIfInBounds_toArray, List.set_cons_zero, List.set_cons_succ]
                obtain ⟨o1, ho1⟩ : ∃ z, z = oL + k * 2 := ⟨_, rfl⟩
                rw [← ho1]
                obtain ⟨o2, ho2⟩ : ∃ z, z = o1 + 0 := ⟨_, rfl⟩
                rw [← ho2]
                obtain ⟨o3, ho3⟩ : ∃ z, z = o1 + 1 := ⟨_, rfl⟩
                rw [← ho3]
                obtain ⟨o4, ho4⟩ : ∃ z, z = oA + i * 4 := ⟨_, rfl⟩
                rw [← ho4]
                obtain ⟨o5, ho5⟩ : ∃ z, z = was + o.amt := ⟨_, rfl⟩
                rw [← ho5]
                clear ho1 ho2 ho3 ho4 ho5
                obtain ⟨go, hgo⟩ : ∃ z, z = gk := ⟨_, rfl⟩
                rw [← hgo] at HGK
                have HGO := Lib.hid hgo
                clear hgo
                generalize hKK : (kk : Int) = kz at *
                clear hKK
                go_wp2_with fail
                go_loopg [15] m (fun gk iv wr => ∃ j : Nat, iv = .int .i64 (j : Int) ∧ j + gk = m ∧ wr = wd)
                case atStart => exact ⟨0, rfl, by omega, rfl⟩
                obtain ⟨j, rfl, hgj, hww⟩ := hrel
                obtain rfl := hww.symm
                have HGJ := Lib.hid hgj
                have yj : (j : Int) ≤ (m : Int) := by omega
                clear hgj
                by_cases hlj : j < m
                · have HLJ := Lib.hid hlj
                  have y7 : (j : Int) < (m : Int) := by omega
                  have HJ6 := Lib.hid (show j ≤ 6 from by omega)
                  clear hlj
                  go_upto_region 22 with fail
                  refine wp_region_lit ?_
                  refine wpList_run (v := .int .i64 (j : Int)) (wanted_none rfl) (exec_move rfl rfl) ?_
                  simp only [Act.put, List.setIfInBounds_toArray, List.set_cons_zero, List.set_cons_succ]
                  refine wpList_run (v := .slice (some ⟨bL, oL, none⟩) m q) (wanted_none rfl) (exec_move rfl rfl) ?_
                  simp only [Act.put, List.setIfInBounds_toArray, List.set_cons_zero, List.set_cons_succ]
                  refine wpList_run (v := .int .i64 (m : Int)) (wanted_none rfl) (gx_len rfl rfl Try.underlying22) ?_
                  simp only [Act.put, List.setIfInBounds_toArray, List.set_cons_zero, List.set_cons_succ]
                  refine wpList_run (v := .bool true) (wanted_none rfl) (ix_lss rfl rfl rfl (decide_eq_true y7)) ?_
                  simp only [Act.put, List.setIfInBounds_toArray, List.set_cons_zero, List.set_cons_succ]
                  go_upto_region 24 with fail
                  refine wp_region_lit ?_
                  refine wpList_run (v := .pointer (some ⟨a, 0, none⟩)) (wanted_none rfl) (exec_move rfl rfl) ?_
                  simp only [Act.put, List.setIfInBounds_toArray, List.set_cons_zero, List.set_cons_succ]
                  refine wpList_run (v := .int .i64 (j : Int)) (wanted_none rfl) (exec_move rfl rfl) ?_
                  simp only [Act.put, List.setIfInBounds_toArray, List.set_cons_zero, List.set_cons_succ]
                  refine wpList_run (v := strV pan) (wanted_none rfl) (exec_move rfl rfl) ?_
                  simp only [Act.put, List.setIfInBounds_toArray, List.set_cons_zero, List.set_cons_succ]
                  refine wpList_op (wanted_none rfl) fun K9 HK9 => ?_
                  go_wp2_with fail
                  refine (Had_at HDd.out ⟨wf_nat HJ6.out, HP.out⟩ (HNIL2.out (j : Int))).mono ?_
                  rintro e wd ⟨rfl, rfl⟩
                  refine HK9.out _ _ ?_
                  clear HK9
                  try simp only [Act.put, List.setIfInBounds_toArray, List.set_cons_zero, List.set_cons_succ]
                  refine wpList_run (v := .bool false) (wanted_none rfl) (ix_neq rfl rfl rfl (by decide)) ?_
                  simp only [Act.put, List.setIfInBounds_toArray, List.set_cons_zero, List.set_cons_succ]
                  go_upto_region 23 with fail
                  refine wp_region_lit ?_
                  refine wpList_run (v := .int .i64 (j : Int)) (wanted_none rfl) (exec_move rfl rfl) ?_
                  simp only [Act.put, List.setIfInBounds_toArray, List.set_cons_zero, List.set_cons_succ]
                  refine wpList_run (v := .int .i64 ((j + 1 : Nat) : Int)) (wanted_none rfl) (ix_add rfl rfl rfl (by omega) (by omega)) ?_
                  simp only [Act.put, List.setIfInBounds_toArray, List.set_cons_zero, List.set_cons_succ]
                  refine wpList_run (v := .int .i64 ((j + 1 : Nat) : Int)) (wanted_none rfl) (gx_assign rfl rfl) ?_
                  simp only [Act.put, List.setIfInBounds_toArray, List.set_cons_zero, List.set_cons_succ]
                  go_wp2_with fail
                  go_roundg (m - (j + 1))
                  case measure => have := HGJ.out; have := HLJ.out; omega
                  case rel => exact ⟨j + 1, rfl, by have := HLJ.out; omega, rfl⟩
                · have y7 : ¬ (j : Int) < (m : Int) := by omega
                  clear hlj
                  go_upto_region 22 with fail
                  refine wp_region_lit ?_
                  refine wpList_run (v := .int .i64 (j : Int)) (wanted_none rfl) (exec_move rfl rfl) ?_
                  simp only [Act.put, List.setIfInBounds_toArray, List.set_cons_zero, List.set_cons_succ]
                  refine wpList_run (v := .slice (some ⟨bL, oL, none⟩) m q) (wanted_none rfl) (exec_move rfl rfl) ?_
                  simp only [Act.put, List.setIfInBounds_toArray, List.set_cons_zero, List.set_cons_succ]
                  refine wpList_run (v := .int .i64 (m : Int)) (wanted_none rfl) (gx_len rfl rfl Try.underlying22) ?_
                  simp only [Act.put, List.setIfInBounds_toArray, List.set_cons_zero, List.set_cons_succ]
                  refine wpList_run (v := .bool false) (wanted_none rfl) (ix_lss rfl rfl rfl (decide_eq_false y7)) ?_
                  simp only [Act.put, List.setIfInBounds_toArray, List.set_cons_zero, List.set_cons_succ]
                  go_upto_region 7 with fail
                  refine wp_region_lit ?_
                  refine wpList_run (v := .int .i64 (i : Int)) (wanted_none rfl) (exec_move rfl rfl) ?_
                  simp only [Act.put, List.setIfInBounds_toArray, List.set_cons_zero, List.set_cons_succ]
                  refine wpList_run (v := .int .i64 ((i + 1 : Nat) : Int)) (wanted_none rfl) (ix_add rfl rfl rfl (by omega) (by omega)) ?_
                  simp only [Act.put, List.setIfInBounds_toArray, List.set_cons_zero, List.set_cons_succ]
                  refine wpList_run (v := .int .i64 ((i + 1 : Nat) : Int)) (wanted_none rfl) (gx_assign rfl rfl) ?_
                  simp only [Act.put, List.setIfInBounds_toArray, List.set_cons_zero, List.set_cons_succ]
                  go_wp2_with fail
                  go_roundg (go - 1)
                  case measure => have := HGK.out; have := H100.out; have := HGO.out; omega
                  case rel => exact ⟨i + 1, _, rfl, by have := HGK.out; have := H100.out; omega, HDd.out, HNIL2.out, HTd.out⟩
            · have HE0 := Lib.hid he
              have HAB := Lib.hid (ask_bad (l := l) (h := h) (c := (o.mem, o.pan)) (a := o.amt) (by rw [HE.out]; exact he))
              have HNW := Lib.hid (show now = was from by rw [← HNOW.out, HAB.out, HWAS.out])
              rw [HAB.out] at HD5
              clear he
              go_upto_region 14 with fail
              refine wp_region_lit ?_
              refine wpList_run (v := .int .i64 E) (wanted_none rfl) (exec_move rfl rfl) ?_
              simp only [Act.put, List.setIfInBounds_toArray, List.set_cons_zero, List.set_cons_succ]
              refine wpList_run (v := .bool true) (wanted_none rfl) (ix_neq rfl rfl rfl (decide_eq_true HE0.out)) ?_
              simp only [Act.put, List.setIfInBounds_toArray, List.set_cons_zero, List.set_cons_succ]
              go_upto_region 15 with fail
              refine wp_region_lit ?_
              refine wpList_run (v := .int .i64 now) (wanted_none rfl) (exec_move rfl rfl) ?_
              simp only [Act.put, List.setIfInBounds_toArray, List.set_cons_zero, List.set_cons_succ]
              refine wpList_run (v := .int .i64 was) (wanted_none rfl) (exec_move rfl rfl) ?_
              simp only [Act.put, List.setIfInBounds_toArray, List.set_cons_zero, List.set_cons_succ]
              refine wpList_run (v := .bool false) (wanted_none rfl) (ix_neq rfl rfl rfl (decide_eq_false (fun e => e HNW.out))) ?_
              simp only [Act.put, List.setIfInBounds_toArray, List.set_cons_zero, List.set_cons_succ]
              go_upto_region 7 with fail
              refine wp_region_lit ?_
              refine wpList_run (v := .int .i64 (i : Int)) (wanted_none rfl) (exec_move rfl rfl) ?_
              simp only [Act.put, List.setIfInBounds_toArray, List.set_cons_zero, List.set_cons_succ]
              refine wpList_run (v := .int .i64 ((i + 1 : Nat) : Int)) (wanted_none rfl) (ix_add rfl rfl rfl (by omega) (by omega)) ?_
              simp only [Act.put, List.setIfInBounds_toArray, List.set_cons_zero, List.set_cons_succ]
              refine wpList_run (v := .int .i64 ((i + 1 : Nat) : Int)) (wanted_none rfl) (gx_assign rfl rfl) ?_
              simp only [Act.put, List.setIfInBounds_toArray, List.set_cons_zero, List.set_cons_succ]
              go_wp2_with fail
              go_roundg (gk - 1)
              case measure => have := HGK.out; have := H100.out; omega
              case rel => exact ⟨i + 1, h, rfl, by have := HGK.out; have := H100.out; omega, HD5.out, HNIL.out, HT5.out⟩
      · have y4 : ¬ (i : Int) < 100 := by omega
        clear h100
        go_upto_region 6 with fail
        refine wp_region_lit ?_
        refine wpList_run (v := .int .i64 (i : Int)) (wanted_none rfl) (exec_move rfl rfl) ?_
        simp only [Act.put, List.setIfInBounds_toArray, List.set_cons_zero, List.set_cons_succ]
        refine wpList_run (v := .slice B n c) (wanted_none rfl) (exec_move rfl rfl) ?_
        simp only [Act.put, List.setIfInBounds_toArray, List.set_cons_zero, List.set_cons_succ]
        refine wpList_run (v := .int .i64 (n : Int)) (wanted_none rfl) (gx_len rfl rfl Try.underlying23) ?_
        simp only [Act.put, List.setIfInBounds_toArray, List.set_cons_zero, List.set_cons_succ]
        refine wpList_run (v := .bool true) (wanted_none rfl) (ix_lss rfl rfl rfl (decide_eq_true y3)) ?_
        simp only [Act.put, List.setIfInBounds_toArray, List.set_cons_zero, List.set_cons_succ]
        refine wpList_run (v := .bool true) (wanted_none rfl) (exec_move rfl rfl) ?_
        simp only [Act.put, List.setIfInBounds_toArray, List.set_cons_zero, List.set_cons_succ]
        refine wpList_run (v := .int .i64 (i : Int)) rfl (exec_move rfl rfl) ?_
        simp only [Act.put, List.setIfInBounds_toArray, List.set_cons_zero, List.set_cons_succ]
        refine wpList_run (v := .bool false) rfl (ix_lss rfl rfl rfl (decide_eq_false y4)) ?_
        simp only [Act.put, List.setIfInBounds_toArray, List.set_cons_zero, List.set_cons_succ]
        refine wpList_run (v := .bool false) (wanted_none rfl) (ix_pickT rfl rfl rfl) ?_
        simp only [Act.put, List.setIfInBounds_toArray, List.set_cons_zero, List.set_cons_succ]
        go_upto_region 26 with fail
        refine wp_region_lit ?_
        refine wpList_run (v := .bool true) (wanted_none rfl) (gx_assign rfl rfl) ?_
        simp only [Act.put, List.setIfInBounds_toArray, List.set_cons_zero, List.set_cons_succ]
        go_wp2_with fail
        go_ret
        exact ⟨rfl, HTR.out⟩
    · have y3 : ¬ (i : Int) < (n : Int) := by omega
      clear hlt
      go_upto_region 6 with fail
      first
      | (rename_i K9 hK9; have HKC := Lib.hid hK9; clear hK9)
      | (rename_i K9 hK9 K8; have HKC := Lib.hid hK9; clear hK9)
      refine wp_region_lit ?_
      refine wpList_run (v := .int .i64 (i : Int)) (wanted_none rfl) (exec_move rfl rfl) ?_
      simp only [Act.put, List.setIfInBounds_toArray, List.set_cons_zero, List.set_cons_succ]
      refine wpList_run (v := .slice B n c) (wanted_none rfl) (exec_move rfl rfl) ?_
      simp only [Act.put, List.setIfInBounds_toArray, List.set_cons_zero, List.set_cons_succ]
      refine wpList_run (v := .int .i64 (n : Int)) (wanted_none rfl) (gx_len rfl rfl Try.underlying23) ?_
      simp only [Act.put, List.setIfInBounds_toArray, List.set_cons_zero, List.set_cons_succ]
      refine wpList_run (v := .bool false) (wanted_none rfl) (ix_lss rfl rfl rfl (decide_eq_false y3)) ?_
      simp only [Act.put, List.setIfInBounds_toArray, List.set_cons_zero, List.set_cons_succ]
      refine wpList_run (v := .bool false) (wanted_none rfl) (exec_move rfl rfl) ?_
      simp only [Act.put, List.setIfInBounds_toArray, List.set_cons_zero, List.set_cons_succ]
      go_wp2_with fail
      refine HKC.out _ _ ?_
      clear HKC
      go_upto_region 26 with fail
      refine wp_region_lit ?_
      refine wpList_run (v := .bool true) (wanted_none rfl) (gx_assign rfl rfl) ?_
      simp only [Act.put, List.setIfInBounds_toArray, List.set_cons_zero, List.set_cons_succ]
      go_wp2_with fail
      go_ret
      exact ⟨rfl, HTR.out⟩
  · have HZ := Lib.hid hz
    clear hz
    obtain ⟨E, hE⟩ : ∃ x, x = Si.newE l := ⟨_, rfl⟩
    have HNW := Lib.hid (New_no (c := q) HR1.out HCC.out HM.out HZ.out)
    rw [← hE] at HNW HZ
    clear hE
    go_upto_region 2 with fail
    refine wp_region_lit ?_
    refine wpList_run (v := .slice A m q) (wanted_none rfl) (exec_move rfl rfl) ?_
    simp only [Act.put, List.setIfInBounds_toArray, List.set_cons_zero, List.set_cons_succ]
    refine wpList_op (wanted_none rfl) fun K9 HK9 => ?_
    go_wp2_with fail
    refine (HNW.out).mono ?_
    rintro e w4 ⟨rfl, ht⟩
    refine HK9.out _ _ ?_
    clear HK9
    try simp only [Act.put, List.setIfInBounds_toArray, List.set_cons_zero, List.set_cons_succ]
    have HT4 := Lib.hid (HT1.out.trans ht fun _ _ e => e)
    clear ht
    refine wpList_run (v := .tuple #[.pointer none, .int .i64 E]) (wanted_none rfl) (exec_move rfl rfl) ?_
    simp only [Act.put, List.setIfInBounds_toArray, List.set_cons_zero, List.set_cons_succ]
    refine wpList_run (v := .pointer none) (wanted_none rfl) (ix_extract rfl rfl rfl) ?_
    simp only [Act.put, List.setIfInBounds_toArray, List.set_cons_zero, List.set_cons_succ]
    refine wpList_run (v := .int .i64 E) (wanted_none rfl) (ix_extract rfl rfl rfl) ?_
    simp only [Act.put, List.setIfInBounds_toArray, List.set_cons_zero, List.set_cons_succ]
    refine wpList_run (v := .pointer none) (wanted_none rfl) (gx_assign rfl rfl) ?_
    simp only [Act.put, List.setIfInBounds_toArray, List.set_cons_zero, List.set_cons_succ]
    refine wpList_run (v := .int .i64 E) (wanted_none rfl) (gx_assign rfl rfl) ?_
    simp only [Act.put, List.setIfInBounds_toArray, List.set_cons_zero, List.set_cons_succ]
    go_upto_region 3 with fail
    refine wp_region_lit ?_
    refine wpList_run (v := .bool true) (wanted_none rfl) (exec_move rfl rfl) ?_
    simp only [Act.put, List.setIfInBounds_toArray, List.set_cons_zero, List.set_cons_succ]
    refine wpList_run (v := .bool false) (wanted_none rfl) (ix_not (b := true) rfl rfl) ?_
    simp only [Act.put, List.setIfInBounds_toArray, List.set_cons_zero, List.set_cons_succ]
    refine wpList_run (v := .bool false) (wanted_none rfl) (exec_move rfl rfl) ?_
    simp only [Act.put, List.setIfInBounds_toArray, List.set_cons_zero, List.set_cons_succ]
    refine wpList_run (v := .int .i64 E) rfl (exec_move rfl rfl) ?_
    simp only [Act.put, List.setIfInBounds_toArray, List.set_cons_zero, List.set_cons_succ]
    refine wpList_run (v := .bool true) rfl (ix_neq rfl rfl rfl (decide_eq_true HZ.out)) ?_
    simp only [Act.put, List.setIfInBounds_toArray, List.set_cons_zero, List.set_cons_succ]
    refine wpList_run (v := .bool true) (wanted_none rfl) (ix_pickF rfl rfl rfl) ?_
    simp only [Act.put, List.setIfInBounds_toArray, List.set_cons_zero, List.set_cons_succ]
    go_upto_region 4 with fail
    refine wp_region_lit ?_
    refine wpList_run (v := .bool true) (wanted_none rfl) (exec_move rfl rfl) ?_
    simp only [Act.put, List.setIfInBounds_toArray, List.set_cons_zero, List.set_cons_succ]
    refine wpList_run (v := .bool true) (wanted_none rfl) (gx_assign rfl rfl) ?_
    simp only [Act.put, List.setIfInBounds_toArray, List.set_cons_zero, List.set_cons_succ]
    go_wp2_with fail
    go_ret
    exact ⟨rfl, HT4.out⟩
theorem standinBounds_walk (A : Option Addr) (m q : Nat) (l : Lims) (B : Option Addr) (n c : Nat) (os : List SOp) (pan : List UInt8) (W : World) (hr : Rws W 2 A m (l.map limC)) (hcc : A = none → q = 0) (hm : m ≤ 140737488355328) (hk : OpAt W B n os) (hb : n ≤ 140737488355328) (hp : pan.length ≤ 281474976710656) :
    Calls Try.prog 4 #[.slice A m q, .slice B n c, strV pan] W fun e w' => e = .returned (.bool true) ∧ Below W.heap.size W w' :=
  (bounds_walk W hr hcc hm hk hb hp).mono fun e w' ⟨h1, h2⟩ => ⟨h1, h2.below (Nat.le_refl _) fun _ _ e => e⟩
end Go.Proofs.Ytenflpbmjahbgaa
