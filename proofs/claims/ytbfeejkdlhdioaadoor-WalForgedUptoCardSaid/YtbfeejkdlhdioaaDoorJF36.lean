/-
  Texts in one file: WmFoA WmFoB. Conditions: the tables and the errors read as the program's text lays them.
-/
import Derived.Test.YtbfeejkdlhdioaaDoorJF0
import Derived.Test.YtbfeejkdlhdioaaDoorJF33
import Derived.Test.YtbfeejkdlhdioaaDoorJF35
namespace Go.Proofs.YtbfeejkdlhdioaaDoor
open Go.RowKit
open Wl (B8)
set_option linter.unusedVariables false
set_option linter.unusedSimpArgs false
set_option maxRecDepth 20000
theorem size_le {l : Wl.Rec} (h : ∀ x ∈ l, x.length ≤ 1048576) : Wl.size l ≤ l.length * 1048576 := by
  induction l with
  | nil => exact Nat.zero_le _
  | cons x r ih =>
    have h1 := ih fun y hy => h y (List.mem_cons_of_mem _ hy)
    have h2 := h x (List.mem_cons_self ..)
    unfold Wl.size at h1 ⊢
    simp only [List.map_cons, List.sum_cons, List.length_cons]
    omega
instance longDec (l : Wl.Rec) : Decidable (Wl.long l) := by unfold Wl.long; infer_instance
set_option maxRecDepth 20000 in
set_option maxHeartbeats 4000000 in
theorem bytes_walk {w : World} {A : Option Addr} {n c : Nat} {l : Wl.Rec} (h1 : Ls w A n l) :
    Calls Tryd.prog 41 #[.slice A n c] w fun r w' => r = .returned (.int .i64 (Wl.size l : Int)) ∧ w' = w := by
  have HA := Lib.hid h1
  have y1 := h1.2.1
  have HNA := Lib.hid h1.1
  have HTX := Lib.hid (show ∀ x ∈ l, x.length ≤ 1048576 from fun x hx => by
    obtain ⟨i, hi⟩ := List.getElem?_of_mem hx
    obtain ⟨_, _, a, m, q, _, _, hb, _, hm⟩ := ls_at h1 hi
    have := hb.1
    omega)
  clear h1
  go_enter Tryd.func41, Tryd.ntmps41
  go_upto_region 0 with fail
  refine wp_region_lit ?_
  refine wpList_run (v := .int .i64 0) (wanted_none rfl) (gx_assign rfl rfl) ?_
  simp only [zz]
  go_upto_region 1 with fail
  refine wp_region_lit ?_
  refine wpList_run (v := .int .i64 0) (wanted_none rfl) (gx_assign rfl rfl) ?_
  simp only [zz]
  go_upto_region 2 with fail
  refine wp_region_lit ?_
  refine wpList_run (v := .int .i64 0) (wanted_none rfl) (gx_assign rfl rfl) ?_
  simp only [zz]
  go_wp2_with fail
  go_loopg [3, 4] n (fun gk sv iv wr => ∃ i : Nat, iv = .int .i64 (i : Int) ∧ i + gk = n ∧ sv = .int .i64 (Wl.size (l.take i) : Int) ∧ wr = w)
  case atStart => exact ⟨0, rfl, by omega, rfl, rfl⟩
  obtain ⟨i, rfl, hgk, rfl, hw⟩ := hrel
  subst hw
  have HGK := Lib.hid hgk
  have yi : (i : Int) ≤ (n : Int) := by omega
  clear hgk
  obtain ⟨sz, hsz⟩ : ∃ z, z = Wl.size (l.take i) := ⟨_, rfl⟩
  rw [← hsz]
  have HSZ := Lib.hid hsz
  have ysz : sz ≤ i * 1048576 := by
    have h9 := size_le (l := l.take i) fun x hx => HTX.out x (List.mem_of_mem_take hx)
    have h8 : (l.take i).length = i := by rw [List.length_take, HNA.out]; omega
    rw [h8] at h9
    omega
  clear hsz
  by_cases hlt : i < n
  · have HLT := Lib.hid hlt
    have y3 : (i : Int) < (n : Int) := by omega
    obtain ⟨x, hx⟩ : ∃ x, l[i]? = some x := ⟨l[i]'(by rw [HNA.out]; exact hlt), List.getElem?_eq_getElem (by rw [HNA.out]; exact hlt)⟩
    obtain ⟨g1, o1, a1, m1, q1, rfl, hc1, hb1, _, hm1⟩ := ls_at HA.out hx
    have HC1 := Lib.hid hc1
    have hst := size_take hx
    have HST := Lib.hid (show Wl.size (l.take (i + 1)) = sz + m1 from by rw [hst, ← HSZ.out, hb1.1])
    have ym1 := hm1
    clear hlt hc1 hb1 hm1 hx hst
    go_upto_region 3 with fail
    refine wp_region_lit ?_
    refine wpList_run (v := .int .i64 (i : Int)) (wanted_none rfl) (exec_move rfl rfl) ?_
    simp only [zz]
    refine wpList_run (v := .slice (some ⟨g1, o1, none⟩) n c) (wanted_none rfl) (exec_move rfl rfl) ?_
    simp only [zz]
    refine wpList_run (v := .int .i64 (n : Int)) (wanted_none rfl) (gx_len rfl rfl Tryd.underlying33) ?_
    simp only [zz]
    refine wpList_run (v := .bool true) (wanted_none rfl) (ix_lss rfl rfl rfl (decide_eq_true y3)) ?_
    simp only [zz]
    go_upto_region 5 with fail
    refine wp_region_lit ?_
    refine wpList_run (v := .int .i64 (sz : Int)) (wanted_none rfl) (exec_move rfl rfl) ?_
    simp only [zz]
    refine wpList_run (v := .slice (some ⟨g1, o1, none⟩) n c) (wanted_none rfl) (exec_move rfl rfl) ?_
    simp only [zz]
    refine wpList_run (v := .int .i64 (i : Int)) (wanted_none rfl) (exec_move rfl rfl) ?_
    simp only [zz]
    refine wpList_run (v := .pointer (some ⟨g1, o1 + i * 1, none⟩)) (wanted_none rfl) (gx_iaddr (i := i) (sz := 1) rfl rfl rfl Tryd.underlying33 size_T8 HLT.out rfl) ?_
    simp only [zz]
    refine wpList_run (v := .slice a1 m1 q1) (wanted_none rfl) (exec_load1 rfl rfl (by kernel_rfl) HC1.out) ?_
    simp only [zz]
    refine wpList_run (v := .int .i64 (m1 : Int)) (wanted_none rfl) (gx_len rfl rfl Tryd.underlying38) ?_
    simp only [zz]
    refine wpList_run (v := .int .i64 ((sz + m1 : Nat) : Int)) (wanted_none rfl) (ix_add rfl rfl rfl (by omega) (by omega)) ?_
    simp only [zz]
    refine wpList_run (v := .int .i64 ((sz + m1 : Nat) : Int)) (wanted_none rfl) (gx_assign rfl rfl) ?_
    simp only [zz]
    go_upto_region 4 with fail
    refine wp_region_lit ?_
    refine wpList_run (v := .int .i64 (i : Int)) (wanted_none rfl) (exec_move rfl rfl) ?_
    simp only [zz]
    refine wpList_run (v := .int .i64 ((i + 1 : Nat) : Int)) (wanted_none rfl) (ix_add rfl rfl rfl (by omega) (by omega)) ?_
    simp only [zz]
    refine wpList_run (v := .int .i64 ((i + 1 : Nat) : Int)) (wanted_none rfl) (gx_assign rfl rfl) ?_
    simp only [zz]
    go_wp2_with fail
    go_roundg (n - (i + 1))
    case measure => have := HGK.out; have := HLT.out; omega
    case rel => exact ⟨i + 1, rfl, by have := HLT.out; omega, by rw [HST.out], rfl⟩
  · obtain rfl : i = n := by omega
    have y3 : ¬ (i : Int) < (i : Int) := by omega
    have HF := Lib.hid (show Wl.size l = sz from by rw [HSZ.out, List.take_of_length_le (by rw [HNA.out]; exact Nat.le_refl _)])
    clear hlt
    go_upto_region 3 with fail
    refine wp_region_lit ?_
    refine wpList_run (v := .int .i64 (i : Int)) (wanted_none rfl) (exec_move rfl rfl) ?_
    simp only [zz]
    refine wpList_run (v := .slice A i c) (wanted_none rfl) (exec_move rfl rfl) ?_
    simp only [zz]
    refine wpList_run (v := .int .i64 (i : Int)) (wanted_none rfl) (gx_len rfl rfl Tryd.underlying33) ?_
    simp only [zz]
    refine wpList_run (v := .bool false) (wanted_none rfl) (ix_lss rfl rfl rfl (decide_eq_false y3)) ?_
    simp only [zz]
    go_upto_region 6 with fail
    refine wp_region_lit ?_
    refine wpList_run (v := .int .i64 (sz : Int)) (wanted_none rfl) (exec_move rfl rfl) ?_
    simp only [zz]
    refine wpList_run (v := .int .i64 (sz : Int)) (wanted_none rfl) (gx_assign rfl rfl) ?_
    simp only [zz]
    go_wp2_with fail
    go_ret
    rw [HF.out]
    exact ⟨rfl, rfl⟩
set_option maxRecDepth 20000 in
set_option maxHeartbeats 4000000 in
theorem long_walk {w : World} {A : Option Addr} {n c : Nat} {l : Wl.Rec} (h1 : Ls w A n l) :
    Calls Tryd.prog 14 #[.slice A n c] w fun r w' => r = .returned (.bool (decide (Wl.long l))) ∧ w' = w := by
  have HA := Lib.hid h1
  have y1 := h1.2.1
  have HNA := Lib.hid h1.1
  clear h1
  go_enter Tryd.func14, Tryd.ntmps14
  go_upto_region 0 with fail
  refine wp_region_lit ?_
  refine wpList_run (v := .bool false) (wanted_none rfl) (gx_assign rfl rfl) ?_
  simp only [zz]
  by_cases h16 : 16 < n
  · have HF := Lib.hid (show decide (Wl.long l) = true from decide_eq_true (.inl (by rw [HNA.out]; exact h16)))
    have y2 : 16 < (n : Int) := by omega
    clear h16
    go_upto_region 1 with fail
    refine wp_region_lit ?_
    refine wpList_run (v := .slice A n c) (wanted_none rfl) (exec_move rfl rfl) ?_
    simp only [zz]
    refine wpList_run (v := .int .i64 (n : Int)) (wanted_none rfl) (gx_len rfl rfl Tryd.underlying33) ?_
    simp only [zz]
    refine wpList_run (v := .bool true) (wanted_none rfl) (ix_gtr rfl rfl rfl (decide_eq_true y2)) ?_
    simp only [zz]
    refine wpList_run (v := .bool true) (wanted_none rfl) (exec_move rfl rfl) ?_
    simp only [zz]
    refine wpList_skip (by go_simp) ?_
    simp only [zz]
    refine wpList_skip (by go_simp) ?_
    simp only [zz]
    refine wpList_skip (by go_simp) ?_
    simp only [zz]
    refine wpList_run (v := .bool true) (wanted_none rfl) (ix_pickT rfl rfl rfl) ?_
    simp only [zz]
    refine wpList_run (v := .bool true) (wanted_none rfl) (gx_assign rfl rfl) ?_
    simp only [zz]
    go_wp2_with fail
    go_ret
    rw [HF.out]
    exact ⟨rfl, rfl⟩
  · have HF := Lib.hid (show decide (Wl.long l) = decide (2048 < (Wl.size l : Int)) from decide_eq_decide.2 (by
      unfold Wl.long
      have := HNA.out
      omega))
    have y2 : ¬ 16 < (n : Int) := by omega
    clear h16
    go_upto_region 1 with fail
    refine wp_region_lit ?_
    refine wpList_run (v := .slice A n c) (wanted_none rfl) (exec_move rfl rfl) ?_
    simp only [zz]
    refine wpList_run (v := .int .i64 (n : Int)) (wanted_none rfl) (gx_len rfl rfl Tryd.underlying33) ?_
    simp only [zz]
    refine wpList_run (v := .bool false) (wanted_none rfl) (ix_gtr rfl rfl rfl (decide_eq_false y2)) ?_
    simp only [zz]
    refine wpList_run (v := .bool false) (wanted_none rfl) (exec_move rfl rfl) ?_
    simp only [zz]
    refine wpList_run (v := .slice A n c) rfl (exec_move rfl rfl) ?_
    simp only [zz]
    refine wpList_op (by go_simp) fun K9 HK9 => ?_
    go_wp2_with fail
    refine (bytes_walk (c := c) HA.out).mono ?_
    rintro e w ⟨rfl, rfl⟩
    refine HK9.out _ _ ?_
    clear HK9
    try simp only [zz]
    refine wpList_run (v := .bool (decide (2048 < (Wl.size l : Int)))) rfl (ix_gtr rfl rfl rfl rfl) ?_
    simp only [zz]
    refine wpList_run (v := .bool (decide (2048 < (Wl.size l : Int)))) (wanted_none rfl) (ix_pickF rfl rfl rfl) ?_
    simp only [zz]
    refine wpList_run (v := .bool (decide (2048 < (Wl.size l : Int)))) (wanted_none rfl) (gx_assign rfl rfl) ?_
    simp only [zz]
    go_wp2_with fail
    go_ret
    rw [HF.out]
    exact ⟨rfl, rfl⟩
end Go.Proofs.YtbfeejkdlhdioaaDoor
namespace Go.Proofs.YtbfeejkdlhdioaaDoor
open Go.RowKit
open Wl (B8 Gp)
set_option linter.unusedVariables false
set_option linter.unusedSimpArgs false
set_option maxRecDepth 20000
/-- St, and u is the group l, apart too -/
def Sg (w wr : World) (p x b S : Nat) (n : Int) (f B : Nat) (L G : List Wl.Rec) (φ : Int → Prop) (u : Value) (l : Wl.Rec) : Prop :=
  ∃ (F : Nat → Prop) (s : AP) (K : Nat) (d : AD) (v : WalV) (vP vH : Value) (gs : List Gp) (Z : Nat → Prop), (Lg wr x p 0 F s K d S v vP vH L gs ∧ Dry s.ds ∧ φ s.fuse ∧ v.first = f ∧ f + L.length ≤ B ∧ v.age ≤ B + 2 ∧ K ≤ 70000 + 100 * B ∧ d.n = n ∧ (∀ k, F k ∨ WalG x vP vH k → w.heap.size ≤ k) ∧ Bk wr b f G Z ∧ ∀ k, Z k → k < wr.heap.size ∧ ¬ (F k ∨ WalG x vP vH k)) ∧ LsZ wr Z u l
/-- behind a boot there is a log that holds L, or L2 -/
def Cgx (w wr : World) (p b S : Nat) (n : Int) (f B : Nat) (L L2 G : List Wl.Rec) (u : Value) (l : Wl.Rec) : Prop :=
  ∃ (F : Nat → Prop) (s : AP) (K : Nat) (Z : Nat → Prop), PlantAt wr p F s K ∧ Tab wr ∧ ¬ F 0 ∧ K ≤ 70000 + 100 * B ∧ (∀ k, F k → w.heap.size ≤ k) ∧ (Bk wr b f G Z ∧ LsZ wr Z u l) ∧ (∀ k, Z k → k < wr.heap.size ∧ ¬ F k) ∧
    ∀ zs : List Int, Dry (s.boot zs).ds ∧ ∃ d, (s.boot zs).ds[0]? = some d ∧ d.n = n ∧ (Wl.DiskOk Crc.sumN (dkD d) S f L ∨ Wl.DiskOk Crc.sumN (dkD d) S f L2) ∧ Wl.grt (dkD d) ≤ B + 2
/-- Cl with a group, its fuse not set -/
def Clg (w wr : World) (p b S : Nat) (n : Int) (f B : Nat) (L G : List Wl.Rec) (u : Value) (l : Wl.Rec) : Prop :=
  ∃ (F : Nat → Prop) (s : AP) (K : Nat) (Z : Nat → Prop) (d : AD), PlantAt wr p F s K ∧ Tab wr ∧ ¬ F 0 ∧ K ≤ 70000 + 100 * B ∧ (∀ k, F k → w.heap.size ≤ k) ∧ (Bk wr b f G Z ∧ LsZ wr Z u l) ∧ (∀ k, Z k → k < wr.heap.size ∧ ¬ F k) ∧
    s.on = true ∧ s.fuse < 0 ∧ Dry s.ds ∧ s.ds[0]? = some d ∧ d.n = n ∧ Wl.DiskOk Crc.sumN (dkD d) S f L ∧ Wl.grt (dkD d) ≤ B + 2
section
variable {w wr w' : World} {p x b S f B : Nat} {n : Int} {L L2 G : List Wl.Rec} {φ : Int → Prop} {u : Value} {l : Wl.Rec}
theorem Sg.st (h : Sg w wr p x b S n f B L G φ u l) : St w wr p x b S n f B L G φ := by
  obtain ⟨F, s, K, d, v, vP, vH, gs, Z, h1, _⟩ := h
  exact ⟨F, s, K, d, v, vP, vH, gs, Z, h1⟩
theorem Sg.ls (h : Sg w wr p x b S n f B L G φ u l) : ∃ A c, u = .slice A l.length c ∧ Ls wr A l.length l := by
  obtain ⟨F, s, K, d, v, vP, vH, gs, Z, _, h2⟩ := h
  obtain ⟨A, c, e, h3, _⟩ := h2.ls
  exact ⟨A, c, e, h3⟩
theorem Sg.still (h : Sg w wr p x b S n f B L G φ u l) (ht : Turn nowhere wr w') : Sg w w' p x b S n f B L G φ u l := by
  obtain ⟨F, s, K, d, v, vP, vH, gs, Z, ⟨h1, h2, h3, h4, h5, h6, h7, h8, h9, h10, h11⟩, h12⟩ := h
  exact ⟨F, s, K, d, v, vP, vH, gs, Z, ⟨h1.still ht, h2, h3, h4, h5, h6, h7, h8, h9, h10.still ht, fun k hk => ⟨Nat.lt_of_lt_of_le (h11 k hk).1 ht.size, (h11 k hk).2⟩⟩, h12.still ht⟩
theorem Sg.fuse {ψ : Int → Prop} (h : Sg w wr p x b S n f B L G φ u l) (hw : Turn nowhere w wr) (m : Int) (hm : -9223372036854775808 ≤ m ∧ m ≤ 9223372036854775807) (hψ : ψ m) :
    Calls Tryd.prog 26 #[.pointer (some ⟨p, 0, none⟩), .int .i64 m] wr fun e w' => e = .returned (.tuple #[]) ∧ Turn nowhere w w' ∧ Sg w w' p x b S n f B L G ψ u l := by
  obtain ⟨F, s, K, d, v, vP, vH, gs, Z, ⟨h1, h2, h3, h4, h5, h6, h7, h8, h9, h10, h11⟩, h12⟩ := h
  have hz := hw.size
  refine (h1.fuse m hm).mono ?_
  rintro e w' ⟨rfl, ht, F', hF, hlg⟩
  have hd : ∀ k, Z k → k < wr.heap.size → ¬ F k := fun k hk _ e => (h11 k hk).2 (.inl e)
  refine ⟨rfl, hw.trans ht fun k hk e => by have := h9 k (.inl e); omega, F', _, K, d, v, vP, vH, gs, Z, ⟨hlg, h2, hψ, h4, h5, h6, h7, h8, fun k hk => ?_, h10.turn ht hd, fun k hk => ?_⟩, h12.turn ht hd⟩
  · rcases hk with e | e
    · rcases hF k e with e | e
      · exact h9 k (.inl e)
      · omega
    · exact h9 k (.inr e)
  · have h20 := h11 k hk
    refine ⟨Nat.lt_of_lt_of_le h20.1 ht.size, fun e => ?_⟩
    rcases e with e | e
    · rcases hF k e with e | e
      · exact h20.2 (.inl e)
      · omega
    · exact h20.2 (.inr e)
/-- Append of the group -/
theorem Sg.append {c : Prop} {A : Option Addr} {m cap : Nat} (h : Sg w wr p x b S n f B L G (fun z => c → z < 0) (.slice A m cap) l) (hw : Turn nowhere w wr) (hB : B ≤ 100000) :
    Calls Tryd.prog 13 #[.pointer (some ⟨x, 0, none⟩), .slice A m cap] wr fun r w' => Turn nowhere w w' ∧
      ((r = .returned (.tuple #[.int .i64 ((f + L.length : Nat) : Int), .int .i64 0]) ∧ Sg w w' p x b S n f (B + 1) (L ++ [l]) G (fun z => c → z < 0) (.slice A m cap) l) ∨
       (r = .returned (.tuple #[.int .i64 0, .int .i64 5]) ∧ Wl.long l) ∨
       r = .returned (.tuple #[.int .i64 0, .int .i64 3]) ∨
       (r = .returned (.tuple #[.int .i64 0, .int .i64 2]) ∧ Cgx w w' p b S n f (B + 1) L (L ++ [l]) G (.slice A m cap) l)) := by
  obtain ⟨F, s, K, d, v, vP, vH, gs, Z, ⟨h1, h2, h3, h4, h5, h6, h7, h8, h9, h10, h11⟩, h12⟩ := h
  have hz := hw.size
  obtain ⟨A', q', e', hls, _⟩ := h12.ls
  injection e' with e1 e2 e3
  subst e1 e2 e3
  have hd : ∀ k, Z k → k < wr.heap.size → ¬ (F k ∨ WalG x vP vH k) := fun k hk _ => (h11 k hk).2
  refine (h1.append (cap := cap) (by omega) (by omega) (by omega) hls).mono ?_
  rintro r w' (⟨hlo, rfl, ht⟩ | ⟨hnl, _, rfl, ht⟩ | ⟨hnl, ht, F', s', hF, hpt, htb, htf, hj, (⟨_, rfl, hfu, P, d', vP', gs', hlg, hdn, hnw⟩ | ⟨hfz, rfl, hoff, htorn, _⟩)⟩)
  · exact ⟨hw.trans ht fun _ _ e => e, .inr (.inl ⟨rfl, hlo⟩)⟩
  · exact ⟨hw.trans ht fun _ _ e => e, .inr (.inr (.inl rfl))⟩
  · have hc := cost_le hnl
    refine ⟨hw.trans ht fun k hk e => by have := h9 k e; omega, .inl ⟨by rw [h4], F', s', _, d', _, vP', vH, gs', Z, ⟨hlg, h2.but hj hlg.ds hlg.dry, fun hcc => by rw [hfu (h3 hcc)]; exact h3 hcc, h4, by rw [List.length_append]; show f + (L.length + 1) ≤ _; omega, by show v.age ≤ _; omega, by omega, hdn.trans h8, fun k hk => ?_, h10.turn ht hd, fun k hk => ?_⟩, h12.turn ht hd⟩⟩
    · rcases hk with e | e
      · rcases hF k e with e | e
        · exact h9 k (.inl e)
        · omega
      · rcases hnw k e with e | e
        · exact h9 k (.inr e)
        · omega
    · have h20 := h11 k hk
      refine ⟨Nat.lt_of_lt_of_le h20.1 ht.size, fun e => ?_⟩
      rcases e with e | e
      · rcases hF k e with e | e
        · exact h20.2 (.inl e)
        · omega
      · rcases hnw k e with e | e
        · exact h20.2 (.inr e)
        · omega
  · have hc := cost_le hnl
    refine ⟨hw.trans ht fun k hk e => by have := h9 k e; omega, .inr (.inr (.inr ⟨rfl, F', s', _, Z, hpt, htb, htf, by omega, fun k hk => ?_, ⟨h10.turn ht hd, h12.turn ht hd⟩, fun k hk => ?_, fun zs => ?_⟩))⟩
    · rcases hF k hk with e | e
      · exact h9 k (.inl e)
      · omega
    · have h20 := h11 k hk
      refine ⟨Nat.lt_of_lt_of_le h20.1 ht.size, fun e => ?_⟩
      rcases hF k e with e | e
      · exact h20.2 (.inl e)
      · omega
    · obtain ⟨d', q1, q2, q3, q4, q5⟩ := htorn zs
      rw [h4] at q4
      exact ⟨fun j d9 hd9 => run_dry _ _ _ _ rfl j d9 hd9, d', q1, by rw [q2, h8], q4, by rw [q5, h1.lv.on.gr]; omega⟩
theorem Cgx.boot (h : Cgx w wr p b S n f B L L2 G u l) (hw : Turn nowhere w wr) (hB : B ≤ 100000) {A : Option Addr} {m c : Nat} {zs : List Int} (hk : Ks w nowhere A m zs) :
    Calls Tryd.prog 27 #[.pointer (some ⟨p, 0, none⟩), .slice A m c] wr fun e w' => e = .returned (.tuple #[]) ∧ Turn nowhere w w' ∧ (Clg w w' p b S n f B L G u l ∨ Clg w w' p b S n f B L2 G u l) := by
  obtain ⟨F, s, K, Z, h1, h2, h3, h4, h6, h7, h8, h9⟩ := h
  have hz := hw.size
  have htl := tab_lt h2
  refine (boot_ok h1 A m c zs (ks_old hk hw h6) (by omega)).mono ?_
  rintro e w' ⟨rfl, F', hp, ht, hF⟩
  obtain ⟨q1, d, q2, q3, q4, q5⟩ := h9 zs
  have hd : ∀ k, Z k → k < wr.heap.size → ¬ F k := fun k hk _ => (h8 k hk).2
  have htf : ¬ F' 0 := fun e => by
    rcases hF _ e with e | e
    · exact h3 e
    · omega
  have hn : ∀ k, F' k → w.heap.size ≤ k := fun k hk => by
    rcases hF k hk with e | e
    · exact h6 k e
    · omega
  refine ⟨rfl, hw.trans ht fun k hk e => by have := h6 k e; omega, ?_⟩
  rcases q4 with q4 | q4
  · exact .inl ⟨F', _, K, Z, d, hp, tab_turn h2 ht h3, htf, h4, hn, ⟨h7.1.turn ht hd, h7.2.turn ht hd⟩, zed h8 hF ht.size, rfl, (by show (-1 : Int) < 0; decide), q1, q2, q3, q4, q5⟩
  · exact .inr ⟨F', _, K, Z, d, hp, tab_turn h2 ht h3, htf, h4, hn, ⟨h7.1.turn ht hd, h7.2.turn ht hd⟩, zed h8 hF ht.size, rfl, (by show (-1 : Int) < 0; decide), q1, q2, q3, q4, q5⟩
theorem Clg.open_ (h : Clg w wr p b S n f B L G u l) (hw : Turn nowhere w wr) (hB : B ≤ 100000) (hL : f + L.length ≤ B) (hS : segsN n = S) (hS0 : S ≠ 0) :
    Calls Tryd.prog 20 #[.pointer (some ⟨p, 0, none⟩), .int .i64 0] wr fun r w' => Turn nowhere w w' ∧ ∃ x, r = .returned (.tuple #[.pointer (some ⟨x, 0, none⟩), .int .i64 0]) ∧ Sg w w' p x b S n f (B + 1) L G (fun z => z < 0) u l := by
  obtain ⟨F, s, K, Z, d, h1, h2, h3, h4, h6, h7, h8, h9, h10, h11, h12, h13, h14, h15⟩ := h
  have hz := hw.size
  have hd : ∀ k, Z k → k < wr.heap.size → ¬ F k := fun k hk _ => (h8 k hk).2
  refine (open_ok (i := 0) (f := f) (L := L) (S := S) (d := d) h1 h2 h3 h12 h9 (h11 0 d h12) (by rw [segsP_at h12, h13]; exact hS) hS0 h14 (by omega) (by omega) (by omega)).mono ?_
  rintro r w' ⟨ht, F', s', hF, hpt, htb, htf, hj, ⟨_, hfu, x', d', v', vP', vH', gs', rfl, hlg, hdn, hvf, hva, hnw⟩ | ⟨hfz, _⟩⟩
  · refine ⟨hw.trans ht fun k hk e => by have := h6 k e; omega, x', rfl, F', s', _, d', v', vP', vH', gs', Z, ⟨hlg, h11.but hj hlg.ds hlg.dry, by rw [hfu h10]; exact h10, hvf, by omega, by omega, by omega, by rw [hdn, h13], fun k hk => ?_, h7.1.turn ht hd, fun k hk => ?_⟩, h7.2.turn ht hd⟩
    · rcases hk with e | e
      · rcases hF k e with e | e
        · exact h6 k e
        · omega
      · have := hnw k e
        omega
    · have h20 := zed h8 hF ht.size k hk
      refine ⟨h20.1, fun e => ?_⟩
      rcases e with e | e
      · exact h20.2 e
      · have := hnw k e
        have := (h8 k hk).1
        omega
  · exact absurd h10 hfz
theorem St.next (h : St w wr p x b S n f B L G φ) (hB : B ≤ 100000) :
    Calls Tryd.prog 22 #[.pointer (some ⟨x, 0, none⟩)] wr fun r w' => r = .returned (.int .i64 ((f + L.length : Nat) : Int)) ∧ Turn nowhere wr w' := by
  obtain ⟨F, s, K, d, v, vP, vH, gs, Z, h1, h2, h3, h4, h5, _⟩ := h
  refine (Next_walk h1.wb (by omega)).mono ?_
  rintro r w' ⟨rfl, ht⟩
  rw [h1.lv.pn, h4]
  exact ⟨rfl, ht⟩
theorem St.bnext (h : St w wr p x b S n f B L G φ) (hB : B ≤ 100000) (hG : G.length ≤ 100000) :
    Calls Tryd.prog 16 #[.pointer (some ⟨b, 0, none⟩)] wr fun r w' => r = .returned (.int .i64 ((f + G.length : Nat) : Int)) ∧ Turn nowhere wr w' := by
  obtain ⟨F, s, K, d, v, vP, vH, gs, Z, h1, h2, h3, h4, h5, h6, h7, h8, h9, h10, h11⟩ := h
  exact bnext_walk h10 (by omega)
/-- the whole, out of what lies side by side -/
theorem St.group (h : St w wr p x b S n f B L G φ) : ∃ Y : Nat → Prop, (∀ k, wr.heap.size ≤ k ∨ k < w.heap.size → Y k) ∧ ∀ w' (u : Value) (l : Wl.Rec), Turn nowhere wr w' → LsZ w' Y u l → Sg w w' p x b S n f B L G φ u l := by
  obtain ⟨F, s, K, d, v, vP, vH, gs, Z, h1, h2, h3, h4, h5, h6, h7, h8, h9, h10, h11⟩ := h
  refine ⟨fun k => ¬ (F k ∨ WalG x vP vH k), fun k hk e => ?_, fun w' u l ht hl => ⟨F, s, K, d, v, vP, vH, gs, capZ (fun k => ¬ (F k ∨ WalG x vP vH k)) w'.heap.size, ⟨h1.still ht, h2, h3, h4, h5, h6, h7, h8, h9, ((h10.mono fun k hk => (h11 k hk).2).still ht).cap, fun k hk => ⟨hk.2, hk.1⟩⟩, hl.cap⟩⟩
  rcases hk with hk | hk
  · rcases e with e | e
    · have := h1.pt.lt e
      omega
    · have := h1.glt e
      omega
  · have := h9 k e
    omega
/-- a sector of the disk -/
theorem St.read (h : St w wr p x b S n f B L G φ) (q : Nat) (hq : (q : Int) < n) :
    Calls Tryd.prog 33 #[.pointer (some ⟨p, 0, none⟩), .int .i64 0, .int .i64 (q : Int)] wr fun e w' => Turn nowhere wr w' ∧ ∃ (R : Nat) (t : B8), e = .returned (.tuple #[.slice (some ⟨R, 0, none⟩) 64 64, .int .i64 0]) ∧ wr.heap.size ≤ R ∧ Bs w' (some ⟨R, 0, none⟩) 64 t := by
  obtain ⟨F, s, K, d, v, vP, vH, gs, Z, h1, h2, h3, h4, h5, h6, h7, h8, h9, h10, h11⟩ := h
  refine (read_any h1.pt 0 d h1.ds q (by rw [h8]; exact hq)).mono ?_
  rintro e w' ⟨ht, ⟨_, R, h21, h22, h23⟩ | ⟨hoff, _⟩⟩
  · exact ⟨ht, R, _, h21, h22, h23⟩
  · rw [h1.on] at hoff
    cases hoff
end
end Go.Proofs.YtbfeejkdlhdioaaDoor
