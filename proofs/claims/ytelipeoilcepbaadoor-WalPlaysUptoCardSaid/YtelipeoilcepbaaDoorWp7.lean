/-
  Texts in one file: WlK Bulk LsOf WlL. Conditions: the tables and the errors read as the program's text lays them.
-/
import Derived.Test.YtelipeoilcepbaaDoorWp6
import Derived.Test.YtelipeoilcepbaaDoorRows
import Derived.Test.YtelipeoilcepbaaDoorWp0
import Derived.Deep.Matrix
namespace Go.Proofs.YtelipeoilcepbaaDoor
open Go.RowKit
open Wl (B8)
set_option linter.unusedVariables false
set_option linter.unusedSimpArgs false
set_option maxRecDepth 20000
def tagsOk (s : Wl.Stamp) (b : B8) (k : Nat) : Prop := ∀ h, h < k → (halfB b h).take 12 = s.tag h
def pieces (b : B8) (k : Nat) : B8 := (List.range k).flatMap fun h => (halfB b h).drop 12
theorem pieces_succ (b : B8) (k : Nat) : pieces b (k + 1) = pieces b k ++ (halfB b k).drop 12 := by
  unfold pieces
  rw [List.range_succ, List.flatMap_append]
  simp
theorem pieces_len {b : B8} : ∀ {k : Nat}, 32 * k ≤ b.length → (pieces b k).length = 20 * k
  | 0, _ => rfl
  | k + 1, h => by
    rw [pieces_succ, List.length_append, pieces_len (by omega), List.length_drop, halfB_len (by omega)]
    omega
theorem tagsOk_succ {s : Wl.Stamp} {b : B8} {k : Nat} (h : tagsOk s b k) (e : (halfB b k).take 12 = s.tag k) : tagsOk s b (k + 1) := fun j hj => by
  by_cases hk : j = k
  · rw [hk]; exact e
  · exact h j (by omega)
theorem Own.still {w w' : World} {B : Nat} {e : TypeId} {v : Value} {bs : B8} (h : Own w B e v bs) (ht : Turn nowhere w w') : Own w' B e v bs := h.below (ht.below (Nat.le_refl _) fun _ _ e => e) (Nat.le_refl _)
theorem Own.bs {w : World} {B : Nat} {e : TypeId} {A : Option Addr} {n c : Nat} {bs : B8} (h : Own w B e (.slice A n c) bs) : Bs w A n bs ∧ n ≤ c ∧ (A = none → c = 0) := by
  obtain ⟨a, n', c', e1, h1, h2, h3⟩ := h.form
  injection e1 with e1 e2 e3
  subst e1 e2 e3
  exact ⟨h1, h2, h3⟩
theorem Own.base {w : World} {B C : Nat} {e : TypeId} {v : Value} {bs : B8} (h : Own w B e v bs) (hC : C ≤ B) : Own w C e v bs := ⟨h.1, h.2.imp id fun ⟨g, cap, cur, a, b, c⟩ => ⟨g, cap, cur, a, Nat.le_trans hC b, c⟩⟩
structure StOk (s : Wl.Stamp) : Prop where
  age : s.age ≤ 9223372036854775807
  no : s.no ≤ 9223372036854775807
  cost : s.cost ≤ 9223372036854775807
  sum : s.sum ≤ 9223372036854775807
theorem tag_walk' (w : World) (s : Wl.Stamp) (h : Nat) (hs : StOk s) (hh : h ≤ 1000000) :
    Calls Tryd.prog 51 #[.agg (stA s), .int .i64 (h : Int)] w fun r w' => r = .returned (.agg (byteCells (s.tag h))) ∧ Turn nowhere w w' := tag_walk w s h hs.age hs.no hs.cost hs.sum hh
def TextP (w : World) (s : Wl.Stamp) (b : B8) (m : Nat) (r : Ending) (w' : World) : Prop :=
  Turn nowhere w w' ∧ ((tagsOk s b (2 * m) ∧ ∃ A' c', r = .returned (.tuple #[.slice A' (40 * m) c', .bool true]) ∧ Own w' w.heap.size 5 (.slice A' (40 * m) c') (pieces b (2 * m))) ∨ (¬ tagsOk s b (2 * m) ∧ r = .returned (.tuple #[.slice none 0 0, .bool false])))
set_option maxRecDepth 20000 in
set_option maxHeartbeats 4000000 in
theorem text_walk (w : World) (s : Wl.Stamp) (A : Option Addr) (m c : Nat) (b : B8) (hs : StOk s) (hb : Bs w A (64 * m) b) (hc : 64 * m ≤ c) (hm : m ≤ 100) :
    Calls Tryd.prog 63 #[.agg (stA s), .slice A (64 * m) c] w fun r w' => TextP w s b m r w' := by
  have HS := Lib.hid hs
  have HB := Lib.hid hb
  have HBL := Lib.hid hb.1
  have HC := Lib.hid hc
  have ym : (m : Int) ≤ 100 := by omega
  have ym2 : (64 : Int) * m ≤ 6400 := by omega
  clear hb hc hs
  go_enter Tryd.func63, Tryd.ntmps63
  obtain ⟨n, hn⟩ : ∃ n, n = 64 * m := ⟨_, rfl⟩
  rw [← hn] at HB HBL HC ⊢
  have HN := Lib.hid hn
  clear hn
  have yn : n ≤ 6400 := by have := HN.out; omega
  go_upto_region 0 with fail
  refine wp_region_lit ?_
  refine wpList_run (v := .pointer (some ⟨(w).heap.size, 0, none⟩)) (w' := (w).alloc (.cells (stA s) 67)) (wanted_none rfl) (gx_box rfl rfl (box_st s _)) ?_;simp only [zz];refine nR (.slice none 0 0) (gx_assign rfl rfl) ?_;simp only [zz];refine nR (.bool false) (gx_assign rfl rfl) ?_;simp only [zz]
  have hb_p := Blk.new (w) 67 (stA s)
  have ht_ := (Turn.refl nowhere (w)).alloc (.cells (stA s) 67)
  obtain ⟨n0_, hn0_⟩ : ∃ n, n = (w).heap.size := ⟨_, rfl⟩
  have hz_p : (w).heap.size = n0_ + 0 := by rw [hn0_]; simp
  obtain ⟨p, hg_⟩ : ∃ g, g = (w).heap.size := ⟨_, rfl⟩
  rw [← hg_] at hb_p hz_p ⊢
  clear hg_
  generalize (w).alloc (.cells (stA s) 67) = w1 at *
  have HT1 := Lib.hid ht_
  clear ht_
  have HBp := Lib.hid hb_p
  have HLp := Lib.hid (show (w).heap.size ≤ p from by omega)
  clear hb_p
  clear hn0_ hz_p
  clear n0_
  go_upto_region 1 with fail
  refine wp_region_lit ?_
  refine nR (.slice A n c) (exec_move rfl rfl) ?_;simp only [zz];refine nR (.int .i64 (n : Int)) (gx_len rfl rfl Tryd.underlying38) ?_;simp only [zz];refine nR (.int .i64 (m : Int)) (wx_q64 rfl rfl (by omega) (by have := HN.out; omega)) ?_;simp only [zz];refine nR (.int .i64 ((40 * m : Nat) : Int)) (ix_mul rfl rfl rfl (by omega) (by omega)) ?_;simp only [zz]
  obtain ⟨j0, hj0, hjz, hj1, hj2⟩ := info_parts byteInfo
  obtain ⟨w2, hmk, hown, hg⟩ := run_make_own (P := Tryd.prog) w1 w1.heap.size 38 5 j0 _ 1 Tryd.underlying38 hj0 hjz hj1 .i64 .i64 (40 * m) (by rw [hj2]; omega) (by unfold maxLen; omega) (Nat.le_refl _)
  have HO := Lib.hid (show Own w2 w1.heap.size 5 (.slice (some ⟨w1.heap.size, 0, none⟩) 0 (40 * m)) (pieces b 0) from hown)
  have ht2 : Turn nowhere w1 w2 := (Turn.refl nowhere w1).grown hg (fun g e _ => by cases e)
  have HT2 := Lib.hid (HT1.out.trans ht2 fun _ _ e => e)
  have HP1 := Lib.hid HBp.out.lt
  have HS1 := Lib.hid HT1.out.size
  have HS2 := Lib.hid ht2.size
  have HBp2 := Lib.hid (HBp.out.turn ht2 fun e => e)
  clear hown hg ht2 HT1 HBp
  refine nR (_) (gx_make rfl rfl rfl hmk) ?_
  clear hmk hj0 hjz hj1 hj2
  simp only [zz];refine nR (.slice (some ⟨w1.heap.size, 0, none⟩) 0 (40 * m)) (gx_assign rfl rfl) ?_;simp only [zz]
  go_upto_region 2 with fail
  refine wp_region_lit ?_
  refine nR (.slice A n c) (exec_move rfl rfl) ?_;simp only [zz];refine nR (.int .i64 (n : Int)) (gx_len rfl rfl Tryd.underlying38) ?_;simp only [zz];refine nR (.int .i64 ((2 * m : Nat) : Int)) (wx_q32 rfl rfl (by omega) (by have := HN.out; omega)) ?_;simp only [zz];refine nR (.int .i64 0) (exec_move rfl rfl) ?_;simp only [zz]
  go_wp2_with fail
  go_loopg [6, 18] (2 * m) (fun gk v iv wr => ∃ i : Nat, iv = .int .i64 (i : Int) ∧ i + gk = 2 * m ∧ Own wr w1.heap.size 5 v (pieces b i) ∧ tagsOk s b i ∧ Blk wr p 67 (stA s) ∧ w1.heap.size ≤ wr.heap.size ∧ Turn nowhere w wr)
  case atStart => exact ⟨0, rfl, by omega, HO.out, (fun h hh => by omega), HBp2.out, HS2.out, HT2.out⟩
  clear HO HBp2 HT2 HS2
  rename_i v _
  obtain ⟨i, rfl, hgk, hown, htg, hbp, hsz, htr⟩ := hrel
  have HSZ := Lib.hid hsz
  have HGK := Lib.hid hgk
  have HOW := Lib.hid hown
  have HTG := Lib.hid htg
  have HBP := Lib.hid hbp
  have HTR := Lib.hid htr
  have yi : (i : Int) ≤ 2 * m := by omega
  clear hgk hown htg hbp hsz htr
  by_cases hlt : i < 2 * m
  · have HLT := Lib.hid hlt
    have y3 : (i : Int) < ((2 * m : Nat) : Int) := by omega
    have HI32 := Lib.hid (show 32 * (i + 1) ≤ n by have := HN.out; omega)
    have HTL := Lib.hid (half_tag_len (b := b) (h := i) (by rw [HBL.out]; exact HI32.out))
    have HPS := Lib.hid (pieces_succ b i)
    have HPL := Lib.hid (pieces_len (b := b) (k := i) (by rw [HBL.out]; have := HI32.out; omega))
    have HTE := Lib.hid (tagsOk_succ (k := i) HTG.out)
    have HTN := Lib.hid (show ¬ (halfB b i).take 12 = s.tag i → ¬ tagsOk s b (2 * m) from fun e h => e (h i HLT.out))
    clear hlt
    go_upto_region 3 with fail
    refine wp_region_lit ?_
    refine nR (.bool true) (ix_lss rfl rfl rfl (decide_eq_true y3)) ?_;simp only [zz]
    go_upto_region 4 with fail
    refine wp_region_lit ?_
    refine nR (.int .i64 (i : Int)) (exec_move rfl rfl) ?_;simp only [zz];refine nR (.int .i64 (i : Int)) (gx_assign rfl rfl) ?_;simp only [zz]
    go_upto_region 5 with fail
    refine wp_region_lit ?_
    refine nR (.slice A n c) (exec_move rfl rfl) ?_;simp only [zz];refine nR (.int .i64 (i : Int)) (exec_move rfl rfl) ?_;simp only [zz]
    refine wpList_op rfl fun K9 HK9 => ?_
    go_wp2_with fail
    refine (cutB_walk wr A n c b i (HB.out.still HTR.out) HI32.out HC.out (by omega)).mono ?_
    rintro e w3 ⟨A3, rfl, hpc, ht⟩
    refine HK9.out _ _ ?_
    clear HK9
    try simp only [zz]
    obtain ⟨tg, htg⟩ : ∃ t, t = (halfB b i).take 12 := ⟨_, rfl⟩
    obtain ⟨pc, hpcE⟩ : ∃ t, t = (halfB b i).drop 12 := ⟨_, rfl⟩
    rw [← htg] at HTL HTE HTN ⊢
    rw [← hpcE] at HPS hpc
    clear htg hpcE
    have HPC := Lib.hid hpc
    have HT3 := Lib.hid ht
    clear ht hpc
    refine nR (.tuple #[.agg (byteCells tg), .slice A3 20 20]) (exec_move rfl rfl) ?_;simp only [zz];refine nR (.agg (byteCells tg)) (ix_extract rfl rfl rfl) ?_;simp only [zz];refine nR (.slice A3 20 20) (ix_extract rfl rfl rfl) ?_;simp only [zz];refine wpList_run (v := .pointer (some ⟨w3.heap.size, 0, none⟩)) (w' := w3.alloc (.cells (byteCells (List.replicate 12 0)) 95)) (wanted_none rfl) (gx_alloc rfl (zero_tag _)) ?_;simp only [zz]
    have hb_ := Blk.new w3 95 (byteCells (List.replicate 12 0))
    have ht_ := (Turn.refl nowhere w3).alloc (.cells (byteCells (List.replicate 12 0)) 95)
    obtain ⟨q, hg_⟩ : ∃ g, g = w3.heap.size := ⟨_, rfl⟩
    rw [← hg_] at hb_ ⊢
    have HLq := Lib.hid (show w3.heap.size ≤ q from by omega)
    clear hg_
    generalize w3.alloc (.cells (byteCells (List.replicate 12 0)) 95) = w4 at *
    have HBq := Lib.hid hb_
    have HT4 := Lib.hid ht_
    clear hb_ ht_
    refine wpList_store_row (wanted_none rfl) 95 (.tmp 8) (.tmp 25) rfl (byteCells tg) HBq.out rfl rfl (by rw [bc_size, bc_size, HTL.out]; rfl) (by rw [size_tag, bc_size, HTL.out]) (bc_one _) ?_
    intro w5 hb_ ht_
    have HBq5 := Lib.hid hb_
    have HT5 := Lib.hid ht_
    clear hb_ ht_
    simp only [zz]
    have HT35 := Lib.hid (HT4.out.trans HT5.out fun k hk e => by have := HLq.out; have e : k = q := e; omega)
    have HTr5 := Lib.hid (HT3.out.trans HT35.out fun _ _ e => e)
    have HPC5 := Lib.hid (HPC.out.still HT35.out)
    have HBP5 := Lib.hid (HBP.out.turn HTr5.out fun e => e)
    have HOW5 := Lib.hid (HOW.out.still HTr5.out)
    have HSZ5 := Lib.hid (Nat.le_trans HSZ.out HTr5.out.size)
    have HTw5 := Lib.hid (HTR.out.trans HTr5.out fun _ _ e => e)
    clear HT3 HT4 HT5 HT35 HPC HBq HTr5
    refine nR (.slice A3 20 20) (gx_assign rfl rfl) ?_;simp only [zz]
    go_upto_region 6 with fail
    refine wp_region_alw (fun W => Blk W q 95 (byteCells tg) ∧ Blk W p 67 (stA s)) (by kernel_rfl) ?_
    have hS0 : (fun W => Blk W q 95 (byteCells tg) ∧ Blk W p 67 (stA s)) w5.drew := ⟨HBq5.out.drew, HBP5.out.drew⟩
    have HD := Lib.hid ((Turn.refl nowhere w5).drew)
    generalize w5.drew = wd at *
    refine alw_take (i := 0) (v := .agg (byteCells tg)) rfl (by kernel_rfl) (by kernel_rfl) (fun _ _ _ h => h) (.inl ⟨by rfl, fun W hW => gx_loads rfl rfl (blk_range hW.1) Tryd.underlying95 rfl (tag_sz HTL.out)⟩) hS0 ?_
    simp only [zz]
    refine alw_take (i := 1) (v := .agg (stA s)) rfl (by kernel_rfl) (by kernel_rfl) (fun _ _ _ h => h) (.inl ⟨by rfl, fun W hW => gx_loads rfl rfl (blk_range hW.2) Tryd.underlying67 rfl (by rw [size_st]; rfl)⟩) hS0 ?_
    simp only [zz]
    refine alw_take (i := 2) (v := .int .i64 (i : Int)) rfl (by kernel_rfl) (by kernel_rfl) (fun _ _ _ h => h) (.inl ⟨by rfl, fun W hW => exec_move rfl rfl⟩) hS0 ?_
    simp only [zz]
    refine alw_step (i := 3) (by kernel_rfl) rfl rfl ?_
    intro K1 HK1
    go_wp2_with fail
    refine (tag_walk' wd s i HS.out (by omega)).mono ?_
    rintro e w6 ⟨rfl, ht⟩
    have hS1 : Blk w6 q 95 (byteCells tg) ∧ Blk w6 p 67 (stA s) := ⟨hS0.1.turn ht fun e => e, hS0.2.turn ht fun e => e⟩
    have HT56 := Lib.hid (HD.out.trans ht fun _ _ e => e)
    refine HK1.out _ _ ⟨⟨hS0.1.turn ht fun e => e, hS0.2.turn ht fun e => e⟩, ?_⟩
    clear HK1
    try simp only [zz]
    refine alw_take (i := 4) (v := .bool (!decide (tg = s.tag i))) rfl (by kernel_rfl) (by kernel_rfl) (fun _ _ _ h => h) (.inl ⟨by rfl, fun W hW => tag_neq rfl rfl rfl HTL.out rfl⟩) hS1 ?_
    simp only [zz]
    have HBP6 := Lib.hid hS1.2
    have HOW6 := Lib.hid (HOW5.out.still HT56.out)
    have HPC6 := Lib.hid (HPC5.out.still HT56.out)
    have HSZ6 := Lib.hid (Nat.le_trans HSZ5.out HT56.out.size)
    have HTw6 := Lib.hid (HTw5.out.trans HT56.out fun _ _ e => e)
    clear ht HBP5 HOW5 HPC5 HTw5 HT56 HD HBq5
    refine alw_done rfl ?_
    refine NoPanic.normal ?_
    clear hS0 hS1
    try simp only [zz]
    by_cases heq : tg = s.tag i
    · have HEQ := Lib.hid (HTE.out heq)
      rw [decide_eq_true heq]
      clear heq
      obtain ⟨A6, n6, c6, rfl, -, -, -⟩ := HOW6.out.form
      have HOB := Lib.hid HOW6.out.bs
      have HN6 := Lib.hid (show n6 = 20 * i by rw [← HPL.out, HOB.out.1.1])
      go_upto_region 8 with fail
      refine wp_region_lit ?_
      refine nR (.slice A6 n6 c6) (exec_move rfl rfl) ?_;simp only [zz];refine nR (.slice A3 20 20) (exec_move rfl rfl) ?_;simp only [zz]
      refine wpList_append_bytes w6 (wanted_none rfl) _ _ _ rfl w1.heap.size 5 byteInfo Tryd.underlying38 _ (pieces b i) rfl HOW6.out A3 20 20 pc rfl HPC6.out (fun h => by have h2 := HPC6.out.2.2 (by omega); obtain ⟨_, _, e, _⟩ := h2; rw [h] at e; cases e) (by rw [HPL.out]; omega) HSZ6.out ?_
      intro v7 w7 ho7 hb7
      rw [← HPS.out] at ho7
      have HO7 := Lib.hid ho7
      have ht7 : Turn nowhere w w7 := ⟨hb7.os.trans HTw6.out.os, hb7.tape.trans HTw6.out.tape, hb7.output.trans HTw6.out.output, Nat.le_trans HTw6.out.size hb7.size, fun k hk _ => (hb7.block k (Nat.lt_of_lt_of_le hk HS1.out)).trans (HTw6.out.block k hk (fun e => e))⟩
      have HBP7 := Lib.hid (show Blk w7 p 67 (stA s) from (hb7.block p HP1.out).trans HBP6.out)
      have HSZ7 := Lib.hid (Nat.le_trans HSZ6.out hb7.size)
      have HT7 := Lib.hid ht7
      have HB7 := Lib.hid hb7
      clear ho7 hb7 ht7
      simp only [zz];refine nR (v7) (gx_assign rfl rfl) ?_;simp only [zz]
      go_upto_region 9 with fail
      refine wp_region_lit ?_
      refine nR (.int .i64 ((i + 1 : Nat) : Int)) (ix_add rfl rfl rfl (by omega) (by omega)) ?_;simp only [zz];refine nR (.int .i64 ((i + 1 : Nat) : Int)) (exec_move rfl rfl) ?_;simp only [zz]
      go_wp2_with fail
      go_roundg (2 * m - (i + 1))
      case measure => have := HGK.out; have := HLT.out; omega
      case rel => exact ⟨i + 1, rfl, by have := HLT.out; omega, HO7.out, HEQ.out, HBP7.out, HSZ7.out, HT7.out⟩
    · have HNE := Lib.hid (HTN.out heq)
      rw [decide_eq_false heq]
      clear heq
      go_upto_region 7 with fail
      refine wp_region_lit ?_
      refine nR (.slice none 0 0) (gx_assign rfl rfl) ?_;simp only [zz];refine nR (.bool false) (gx_assign rfl rfl) ?_;simp only [zz]
      go_wp2_with fail
      go_ret2
      exact ⟨HTw6.out, .inr ⟨HNE.out, rfl⟩⟩
  · obtain rfl : i = 2 * m := by have := HGK.out; omega
    obtain ⟨A6, n6, c6, rfl, -, -, -⟩ := HOW.out.form
    have HOB := Lib.hid HOW.out.bs
    have HN6 := Lib.hid (show n6 = 40 * m by rw [← HOB.out.1.1, pieces_len (by rw [HBL.out]; have := HN.out; omega)]; omega)
    go_upto_region 3 with fail
    refine wp_region_lit ?_
    refine nR (.bool false) (ix_lss rfl rfl rfl (decide_eq_false (by omega))) ?_;simp only [zz]
    go_upto_region 10 with fail
    refine wp_region_lit ?_
    refine nR (.slice A6 n6 c6) (exec_move rfl rfl) ?_;simp only [zz];refine nR (.slice A6 n6 c6) (gx_assign rfl rfl) ?_;simp only [zz];refine nR (.bool true) (gx_assign rfl rfl) ?_;simp only [zz]
    go_wp2_with fail
    go_ret2
    have h := HOW.out
    rw [HN6.out] at h
    refine ⟨HTR.out, .inl ⟨HTG.out, A6, c6, by rw [HN6.out]; rfl, h.base HS1.out⟩⟩
end Go.Proofs.YtelipeoilcepbaaDoor
namespace Go.Proofs.YtelipeoilcepbaaDoor
open Go
theorem bulk_pos {H : Type} (d : DataW H) : 1 ≤ Rows.uptoBulk d := by
  cases d with
  | lit l => cases l <;> simp [Rows.uptoBulk]
  | _ => simp [Rows.uptoBulk]
theorem bulk_len {H : Type} : ∀ l : List (DataW H), l.length ≤ Rows.uptoBulkAll l
  | [] => by simp [Rows.uptoBulkAll]
  | d :: r => by
    have h1 := bulk_pos d
    have h2 := bulk_len r
    simp only [Rows.uptoBulkAll, List.length_cons]
    omega
theorem bulk_slice {H : Type} (es sp : List (DataW H)) : es.length + sp.length ≤ Rows.uptoBulk (.slice es sp) := by
  have h1 := bulk_len es
  have h2 := bulk_len sp
  simp only [Rows.uptoBulk]
  omega
theorem bulk_all {H : Type} {l : List (DataW H)} (hk : Rows.uptoSmall H l = true) : Rows.uptoBulkAll l ≤ 1048576 := of_decide_eq_true hk
end Go.Proofs.YtelipeoilcepbaaDoor
namespace Go.Proofs.YtelipeoilcepbaaDoor
open Go.RowKit Go.ChangeShapes Go.WideShapes Go.Deep
set_option linter.unusedVariables false
def Ls (w : World) (A : Option Addr) (n : Nat) (ls : List (List UInt8)) : Prop :=
  ls.length = n ∧ n ≤ 1048576 ∧ (0 < n → ∃ b off, A = some ⟨b, off, none⟩ ∧ ∀ i l, ls[i]? = some l → ∃ a m c, w.cell? ⟨b, off + i, none⟩ = some (.slice a m c) ∧ Bs w a m l ∧ (a = none → c = 0) ∧ m ≤ 1048576)
theorem bs_still {w w' : World} {A : Option Addr} {n : Nat} {bs : List UInt8} (h : Bs w A n bs) (ht : Turn nowhere w w') : Bs w' A n bs := by
  obtain ⟨h1, h2, h3⟩ := h
  refine ⟨h1, h2, fun hp => ?_⟩
  obtain ⟨b, off, e, hc⟩ := h3 hp
  exact ⟨b, off, e, fun i hi => by rw [ht.cell (World.block_lt_of_cell? _ _ (hc i hi)) (fun e => e)]; exact hc i hi⟩
theorem Ls.still {w w' : World} {A : Option Addr} {n : Nat} {ls : List (List UInt8)} (h : Ls w A n ls) (ht : Turn nowhere w w') : Ls w' A n ls := by
  obtain ⟨h1, h2, h3⟩ := h
  refine ⟨h1, h2, fun hp => ?_⟩
  obtain ⟨b, off, e, hc⟩ := h3 hp
  refine ⟨b, off, e, fun i l hi => ?_⟩
  obtain ⟨a, m, c, g1, g2, g3, g4⟩ := hc i l hi
  exact ⟨a, m, c, by rw [ht.cell (World.block_lt_of_cell? _ _ g1) (fun e => e)]; exact g1, bs_still g2 ht, g3, g4⟩
theorem Ls.at_ {w : World} {A : Option Addr} {n : Nat} {ls : List (List UInt8)} (h : Ls w A n ls) {i : Nat} (hi : i < n) : ∃ b off a m c l, A = some ⟨b, off, none⟩ ∧ ls[i]? = some l ∧ w.cell? ⟨b, off + i, none⟩ = some (.slice a m c) ∧ Bs w a m l ∧ (a = none → c = 0) ∧ m ≤ 1048576 := by
  obtain ⟨h1, h2, h3⟩ := h
  obtain ⟨b, off, e, hc⟩ := h3 (by omega)
  obtain ⟨a, m, c, g⟩ := hc i _ (List.getElem?_eq_getElem (by omega))
  exact ⟨b, off, a, m, c, _, e, List.getElem?_eq_getElem (by omega), g⟩
theorem ls_nil (w : World) (A : Option Addr) : Ls w A 0 [] := ⟨rfl, by omega, fun h => by omega⟩
theorem bulk_mem {H : Type} {d : DataW H} : ∀ {l : List (DataW H)}, d ∈ l → Rows.uptoBulk d ≤ Rows.uptoBulkAll l
  | [], h => by cases h
  | e :: r, h => by
    simp only [Rows.uptoBulkAll]
    rcases List.mem_cons.1 h with rfl | h
    · omega
    · have := bulk_mem h
      omega
theorem bulk_row {H : Type} {k : IntKind} {A : Option Addr} {L C : Nat} {zs : List Int} (hz : zs.length = C) (hA : A = none → C = 0) : C ≤ Rows.uptoBulk (intRow (H := H) k A L zs) := by
  cases A with
  | none => have := hA rfl; omega
  | some a =>
    have h := bulk_slice (H := H) (lits k (zs.take L)) (lits k (zs.drop L))
    have e1 : (lits (H := H) k (zs.take L)).length + (lits (H := H) k (zs.drop L)).length = zs.length := by simp [lits]; omega
    show C ≤ Rows.uptoBulk (.slice (lits k (zs.take L)) (lits k (zs.drop L)))
    omega
section
variable {H : Type} {enc : TypeId × Value → H} {w : World} {base : Nat} {held : Bool}
theorem open_ls {fuel : Nat} {cs : List Value} {x : DataW H × List MemPlace} (h : DataW.trod enc Tryd.prog w base (fun _ => true) held fuel 33 cs = some x) (hk : Rows.uptoBulk x.1 ≤ 1048576) :
    cs = [.slice none 0 0] ∨ ∃ a len cap ls, cs = [.slice (some a) len cap] ∧ Ls w (some a) len ls := by
  rcases open_int_rows Tryd.underlying33 Tryd.underlying38 Tryd.underlying5 (by kernel_rfl) (by kernel_rfl) h with ⟨h0, _⟩ | ⟨a, len, cap, A, L, C, Z, hcs, hb, hl, hm, hx, hr⟩
  · exact .inl h0
  · refine .inr ⟨a, len, cap, (List.range len).map fun r => ((Z r).take (L r)).map fun z => UInt8.ofNat z.toNat, hcs, by simp, ?_, fun hp => ?_⟩
    · rw [hx] at hk
      have hk : Rows.uptoBulk (DataW.slice ((List.range len).map fun r => intRow (H := H) .u8 (A r) (L r) (Z r)) ((List.range (cap - len)).map fun j => intRow (H := H) .u8 (A (len + j)) (L (len + j)) (Z (len + j)))) ≤ 1048576 := hk
      have := bulk_slice (H := H) ((List.range len).map fun r => intRow .u8 (A r) (L r) (Z r)) ((List.range (cap - len)).map fun j => intRow .u8 (A (len + j)) (L (len + j)) (Z (len + j)))
      have e1 : ((List.range len).map fun r => intRow (H := H) .u8 (A r) (L r) (Z r)).length = len := by simp
      omega
    · obtain ⟨b, off, spot⟩ := a
      have hc := (hr 0 (by omega)).1
      have hspot : spot = none := by simpa [Addr.add] using World.cell?_spot hc
      subst hspot
      refine ⟨b, off, rfl, fun i l hi => ?_⟩
      have hil : i < len := by
        have := (List.getElem?_eq_some_iff.1 hi).1
        simpa using this
      have hle : l = ((Z i).take (L i)).map fun z => UInt8.ofNat z.toNat := by
        rw [List.getElem?_map, List.getElem?_range hil] at hi
        exact (Option.some.inj hi).symm
      obtain ⟨g1, g2, g3, g4, g5, g6, g7⟩ := hr i (by omega)
      refine ⟨A i, L i, C i, ?_, ?_, g6, ?_⟩
      · rw [show (⟨b, off, none⟩ : Addr).add i = ⟨b, off + i, none⟩ from by by_cases h0 : i = 0 <;> simp [Addr.add, h0]] at g1
        exact g1
      · rw [hle]
        cases hA : A i with
        | none =>
          have h0 := g6 hA
          have hL0 : L i = 0 := by omega
          have hZ0 : Z i = [] := List.eq_nil_of_length_eq_zero (by omega)
          rw [hL0]
          exact bs_nil w none
        | some a' =>
          have := bs_of_ints (w := w) (x := a') (len := L i) (cap := C i) (zs := Z i) g2 g3 g4 (fun j hj => (g7 a' hA).2 j (by omega)) g5
          exact this
      · have h1 : Rows.uptoBulk (intRow (H := H) .u8 (A i) (L i) (Z i)) ≤ Rows.uptoBulkAll ((List.range len).map fun r => intRow (H := H) .u8 (A r) (L r) (Z r)) := bulk_mem (List.mem_map.2 ⟨i, List.mem_range.2 hil, rfl⟩)
        have h2 := bulk_row (H := H) (k := .u8) (L := L i) g4 g6
        rw [hx] at hk
        simp only [Rows.uptoBulk] at hk
        omega
end
end Go.Proofs.YtelipeoilcepbaaDoor
namespace Go.Proofs.YtelipeoilcepbaaDoor
open Go.RowKit
open Wl (B8)
set_option linter.unusedVariables false
set_option linter.unusedSimpArgs false
set_option maxRecDepth 20000
theorem size_sl : (Tryd.prog.info? 38).map (·.size) = some 1 := by kernel_rfl
theorem size_take {l : List B8} {i : Nat} {r : B8} (h : l[i]? = some r) : Wl.size (l.take (i + 1)) = Wl.size (l.take i) + r.length := by
  obtain ⟨hi, e⟩ := List.getElem?_eq_some_iff.1 h
  rw [List.take_succ_eq_append_getElem hi, e]
  simp [Wl.size]
theorem size_le_take (l : List B8) (i : Nat) : Wl.size (l.take i) ≤ Wl.size l := by
  have h : Wl.size l = Wl.size (l.take i) + Wl.size (l.drop i) := by
    unfold Wl.size
    conv => lhs; rw [← List.take_append_drop i l, List.map_append, List.sum_append]
  omega
theorem Ls.size_le {w : World} {A : Option Addr} {n : Nat} {l : List B8} (h : Ls w A n l) : ∀ i, i ≤ n → Wl.size (l.take i) ≤ i * 1048576
  | 0, _ => by simp [Wl.size]
  | i + 1, hi => by
    have ih := h.size_le i (by omega)
    obtain ⟨b, off, a, m, c, r, e, h1, h2, h3, h4, h5⟩ := h.at_ (i := i) (by omega)
    rw [size_take h1, h3.1]
    omega
theorem Ls.size_lt {w : World} {A : Option Addr} {n : Nat} {l : List B8} (h : Ls w A n l) : Wl.size l ≤ 1099511627776 := by
  have h1 := h.size_le n (Nat.le_refl _)
  rw [List.take_of_length_le (by rw [h.1]; exact Nat.le_refl _)] at h1
  have h2 := h.2.1
  have h3 : n * 1048576 ≤ 1048576 * 1048576 := Nat.mul_le_mul_right _ h2
  omega
set_option maxRecDepth 20000 in
set_option maxHeartbeats 4000000 in
theorem sizeOf_walk (w : World) (A : Option Addr) (n c : Nat) (l : List B8) (hl : Ls w A n l) :
    Calls Tryd.prog 49 #[.slice A n c] w fun r w' => r = .returned (.int .i64 ((Wl.size l : Nat) : Int)) ∧ Turn nowhere w w' := by
  have HL := Lib.hid hl
  have HN := Lib.hid hl.2.1
  have HSZ := Lib.hid hl.size_lt
  clear hl
  go_enter Tryd.func49, Tryd.ntmps49
  go_upto_region 0 with fail
  refine wp_region_lit ?_
  refine nR (.int .i64 0) (gx_assign rfl rfl) ?_;simp only [zz]
  go_upto_region 1 with fail
  refine wp_region_lit ?_
  refine nR (.int .i64 0) (gx_assign rfl rfl) ?_;simp only [zz]
  go_upto_region 2 with fail
  refine wp_region_lit ?_
  refine nR (.slice A n c) (exec_move rfl rfl) ?_;simp only [zz];refine nR (.int .i64 (n : Int)) (gx_len rfl rfl Tryd.underlying33) ?_;simp only [zz];refine nR (.int .i64 0) (exec_move rfl rfl) ?_;simp only [zz]
  go_wp2_with fail
  go_loopg [3, 8] n (fun gk nv iv wr => ∃ i : Nat, iv = .int .i64 (i : Int) ∧ i + gk = n ∧ nv = .int .i64 ((Wl.size (l.take i) : Nat) : Int) ∧ Turn nowhere w wr)
  case atStart => exact ⟨0, rfl, by omega, rfl, Turn.refl _ _⟩
  obtain ⟨i, rfl, hgk, rfl, htr⟩ := hrel
  have HGK := Lib.hid hgk
  have HTR := Lib.hid htr
  have HSI := Lib.hid (Nat.le_trans (size_le_take l i) HSZ.out)
  have yi : i ≤ n := by omega
  clear hgk htr
  obtain ⟨m, hm⟩ : ∃ m, m = Wl.size (l.take i) := ⟨_, rfl⟩
  rw [← hm] at HSI ⊢
  have HM := Lib.hid hm
  clear hm
  by_cases hlt : i < n
  · have y3 : (i : Int) < (n : Int) := by omega
    have HLT := Lib.hid hlt
    obtain ⟨b, off, a, k, ca, r, rfl, h1, h2, h3, h4, h5⟩ := (HL.out.still HTR.out).at_ hlt
    have HC := Lib.hid h2
    have HK := Lib.hid h5
    have HS := Lib.hid (show m + k = Wl.size (l.take (i + 1)) by rw [size_take h1, HM.out, h3.1])
    have HS2 := Lib.hid (Nat.le_trans (size_le_take l (i + 1)) HSZ.out)
    have yn := HN.out
    have ys : m + k ≤ 1099511627776 := by rw [HS.out]; exact HS2.out
    clear h1 h2 h3 h4 h5
    go_upto_region 3 with fail
    refine wp_region_lit ?_
    refine nR (.bool true) (ix_lss rfl rfl rfl (decide_eq_true y3)) ?_;simp only [zz]
    go_upto_region 4 with fail
    refine wp_region_lit ?_
    refine nR (.pointer (some ⟨b, off + i, none⟩)) (gx_iaddr (i := i) (sz := 1) rfl rfl rfl Tryd.underlying33 size_sl HLT.out (by omega)) ?_;simp only [zz];refine nR (.slice a k ca) (exec_load1 rfl rfl (by kernel_rfl) HC.out) ?_;simp only [zz];refine nR (.slice a k ca) (gx_assign rfl rfl) ?_;simp only [zz]
    go_upto_region 5 with fail
    refine wp_region_lit ?_
    refine nR (.int .i64 (m : Int)) (exec_move rfl rfl) ?_;simp only [zz];refine nR (.slice a k ca) (exec_move rfl rfl) ?_;simp only [zz];refine nR (.int .i64 (k : Int)) (gx_len rfl rfl Tryd.underlying38) ?_;simp only [zz];refine nR (.int .i64 ((Wl.size (l.take (i + 1)) : Nat) : Int)) (ix_add rfl rfl rfl (by rw [← HS.out]; omega) (by rw [← HS.out]; omega)) ?_;simp only [zz];refine nR (.int .i64 ((Wl.size (l.take (i + 1)) : Nat) : Int)) (gx_assign rfl rfl) ?_;simp only [zz]
    go_upto_region 6 with fail
    refine wp_region_lit ?_
    refine nR (.int .i64 ((i + 1 : Nat) : Int)) (ix_add rfl rfl rfl (by omega) (by omega)) ?_;simp only [zz];refine nR (.int .i64 ((i + 1 : Nat) : Int)) (exec_move rfl rfl) ?_;simp only [zz]
    go_wp2_with fail
    go_roundg (gk - 1)
    case measure => have := HGK.out; omega
    case rel => exact ⟨i + 1, rfl, by have := HGK.out; omega, rfl, HTR.out⟩
  · have HE := Lib.hid (show Wl.size l = m by rw [HM.out, List.take_of_length_le (by rw [HL.out.1]; have := HGK.out; omega)])
    go_upto_region 3 with fail
    refine wp_region_lit ?_
    refine nR (.bool false) (ix_lss rfl rfl rfl (decide_eq_false (by omega))) ?_;simp only [zz]
    go_upto_region 7 with fail
    refine wp_region_lit ?_
    refine nR (.int .i64 (m : Int)) (exec_move rfl rfl) ?_;simp only [zz];refine nR (.int .i64 (m : Int)) (gx_assign rfl rfl) ?_;simp only [zz]
    go_wp2_with fail
    go_ret
    exact ⟨by rw [HE.out]; rfl, HTR.out⟩
set_option maxRecDepth 20000 in
set_option maxHeartbeats 4000000 in
theorem costOf_walk (w : World) (A : Option Addr) (n c : Nat) (l : List B8) (hl : Ls w A n l) :
    Calls Tryd.prog 26 #[.slice A n c] w fun r w' => r = .returned (.int .i64 ((Wl.cost l : Nat) : Int)) ∧ Turn nowhere w w' := by
  have HL := Lib.hid hl
  have yn : n ≤ 1048576 := hl.2.1
  have ys : Wl.size l ≤ 1099511627776 := hl.size_lt
  have HCO := Lib.hid (show (1 + 2 * n + Wl.size l + 39) / 40 = Wl.cost l by unfold Wl.cost; rw [hl.1])
  clear hl
  go_enter Tryd.func26, Tryd.ntmps26
  go_upto_region 0 with fail
  refine wp_region_lit ?_
  refine nR (.int .i64 0) (gx_assign rfl rfl) ?_;simp only [zz]
  go_upto_region 1 with fail
  refine wp_region_lit ?_
  refine nR (.slice A n c) (exec_move rfl rfl) ?_;simp only [zz];refine nR (.int .i64 (n : Int)) (gx_len rfl rfl Tryd.underlying33) ?_;simp only [zz];refine nR (.int .i64 ((2 * n : Nat) : Int)) (ix_mul rfl rfl rfl (by omega) (by omega)) ?_;simp only [zz];refine nR (.int .i64 ((1 + 2 * n : Nat) : Int)) (ix_add rfl rfl rfl (by omega) (by omega)) ?_;simp only [zz];refine nR (.slice A n c) (exec_move rfl rfl) ?_;simp only [zz]
  refine wpList_op rfl fun K9 HK9 => ?_
  go_wp2_with fail
  refine (sizeOf_walk w A n c l HL.out).mono ?_
  rintro e w1 ⟨rfl, ht⟩
  refine HK9.out _ _ ?_
  clear HK9
  try simp only [zz]
  have HT := Lib.hid ht
  clear ht
  refine nR (.int .i64 ((1 + 2 * n + Wl.size l : Nat) : Int)) (ix_add rfl rfl rfl (by omega) (by omega)) ?_;simp only [zz];refine nR (.int .i64 ((1 + 2 * n + Wl.size l + 40 : Nat) : Int)) (ix_add rfl rfl rfl (by omega) (by omega)) ?_;simp only [zz];refine nR (.int .i64 ((1 + 2 * n + Wl.size l + 39 : Nat) : Int)) (ix_sub rfl rfl rfl (by omega) (by omega)) ?_;simp only [zz];refine nR (.int .i64 ((Wl.cost l : Nat) : Int)) (wx_q40 rfl rfl (by omega) HCO.out) ?_;simp only [zz];refine nR (.int .i64 ((Wl.cost l : Nat) : Int)) (gx_assign rfl rfl) ?_;simp only [zz]
  go_wp2_with fail
  go_ret
  exact ⟨rfl, HT.out⟩
set_option maxRecDepth 20000 in
set_option maxHeartbeats 4000000 in
theorem isLong_walk (w : World) (A : Option Addr) (n c : Nat) (l : List B8) (hl : Ls w A n l) :
    Calls Tryd.prog 25 #[.slice A n c] w fun r w' => r = .returned (.bool (decide (Wl.long l))) ∧ Turn nowhere w w' := by
  have HL := Lib.hid hl
  have HLEN := Lib.hid hl.1
  have yn : n ≤ 1048576 := hl.2.1
  have ys : Wl.size l ≤ 1099511627776 := hl.size_lt
  clear hl
  go_enter Tryd.func25, Tryd.ntmps25
  go_upto_region 0 with fail
  refine wp_region_lit ?_
  refine nR (.bool false) (gx_assign rfl rfl) ?_;simp only [zz]
  go_upto_region 1 with fail
  refine wp_region_lit ?_
  refine nR (.slice A n c) (exec_move rfl rfl) ?_;simp only [zz];refine nR (.int .i64 (n : Int)) (gx_len rfl rfl Tryd.underlying33) ?_;simp only [zz]
  by_cases h16 : 16 < n
  · refine wpList_run (v := .bool true) (wanted_none rfl) (ix_gtr rfl rfl rfl (decide_eq_true (by omega))) ?_
    simp only [zz];refine nR (.bool true) (exec_move rfl rfl) ?_;simp only [zz];refine wpList_skip (by go_simp) ?_;simp only [zz];refine wpList_skip (by go_simp) ?_;simp only [zz];refine wpList_skip (by go_simp) ?_;simp only [zz];refine nR (.bool true) (ix_pickT rfl rfl rfl) ?_;simp only [zz];refine nR (.bool true) (gx_assign rfl rfl) ?_;simp only [zz]
    go_wp2_with fail
    go_ret
    exact ⟨ret_bool (decide_eq_true (.inl (by rw [HLEN.out]; exact h16))).symm, Turn.refl _ _⟩
  · refine wpList_run (v := .bool false) (wanted_none rfl) (ix_gtr rfl rfl rfl (decide_eq_false (by omega))) ?_
    simp only [zz];refine nR (.bool false) (exec_move rfl rfl) ?_;simp only [zz];refine wpList_run (v := .slice A n c) rfl (exec_move rfl rfl) ?_;simp only [zz]
    refine wpList_op rfl fun K9 HK9 => ?_
    go_wp2_with fail
    refine (sizeOf_walk w A n c l HL.out).mono ?_
    rintro e w1 ⟨rfl, ht⟩
    refine HK9.out _ _ ?_
    clear HK9
    try simp only [zz]
    have HT := Lib.hid ht
    clear ht
    refine wpList_run (v := .bool (decide (2048 < Wl.size l))) rfl (ix_gtr rfl rfl rfl (by rw [Bool.eq_iff_iff]; simp only [decide_eq_true_eq]; omega)) ?_;simp only [zz];refine nR (.bool (decide (2048 < Wl.size l))) (ix_pickF rfl rfl rfl) ?_;simp only [zz];refine nR (.bool (decide (2048 < Wl.size l))) (gx_assign rfl rfl) ?_;simp only [zz]
    go_wp2_with fail
    go_ret
    refine ⟨ret_bool ?_, HT.out⟩
    rw [Bool.eq_iff_iff]
    simp only [decide_eq_true_eq]
    unfold Wl.long
    rw [HLEN.out]
    exact ⟨.inr, fun h => h.resolve_left h16⟩
end Go.Proofs.YtelipeoilcepbaaDoor
