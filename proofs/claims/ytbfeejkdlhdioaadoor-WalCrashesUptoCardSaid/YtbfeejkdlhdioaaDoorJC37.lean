/-
  Texts in one file: WmCrB WmCrC. Conditions: the tables and the errors read as the program's text lays them.
-/
import Derived.Test.YtbfeejkdlhdioaaDoorJC0
import Derived.Test.YtbfeejkdlhdioaaDoorJC36
namespace Go.Proofs.YtbfeejkdlhdioaaDoor
open Go.RowKit
open Wl (B8)
set_option linter.unusedVariables false
set_option linter.unusedSimpArgs false
set_option maxRecDepth 20000
set_option maxRecDepth 20000 in
set_option maxHeartbeats 4000000 in
theorem kind_walk {w : World} (c : Int) (hc : -9223372036854775808 ≤ c ∧ c ≤ 9223372036854775807) : Calls Tryd.prog 12 #[.int .i64 c] w fun r w' => r = .returned (.int .i64 (amongI c 10)) ∧ w' = w := by
  have HC := Lib.hid hc
  clear hc
  go_enter Tryd.func12, Tryd.ntmps12
  go_upto_region 0 with fail
  refine wp_region_lit ?_
  refine nR (.int .i64 0) (gx_assign rfl rfl) ?_;simp only [zz]
  by_cases h0 : c < 0
  · go_upto_region 1 with fail
    refine wp_region_lit ?_
    refine nR (.int .i64 c) (exec_move rfl rfl) ?_;simp only [zz];refine nR (.bool true) (ix_lss rfl rfl rfl (decide_eq_true h0)) ?_;simp only [zz]
    go_upto_region 2 with fail
    refine wp_region_lit ?_
    refine nR (.int .i64 c) (exec_move rfl rfl) ?_;simp only [zz];refine nR (.int .i64 (c + 1)) (ix_add rfl rfl rfl rfl (by have := HC.out; omega)) ?_;simp only [zz];refine nR (.int .i64 (-(c + 1))) (wx_neg rfl rfl rfl (by have := HC.out; omega)) ?_;simp only [zz];refine nR (.int .i64 (-(c + 1))) (gx_assign rfl rfl) ?_;simp only [zz]
    go_upto_region 3 with fail
    refine wp_region_lit ?_
    refine nR (.int .i64 (-(c + 1))) (exec_move rfl rfl) ?_;simp only [zz];refine nR (.int .i64 ((-(c + 1)).tmod 10)) (wx_rem rfl rfl rfl (by decide) (by have := HC.out; omega)) ?_;simp only [zz];refine nR (.int .i64 ((-(c + 1)).tmod 10)) (gx_assign rfl rfl) ?_;simp only [zz]
    go_wp2_with fail
    go_ret
    exact ⟨by unfold amongI; rw [if_pos h0]; rfl, rfl⟩
  · go_upto_region 1 with fail
    refine wp_region_lit ?_
    refine nR (.int .i64 c) (exec_move rfl rfl) ?_;simp only [zz];refine nR (.bool false) (ix_lss rfl rfl rfl (decide_eq_false h0)) ?_;simp only [zz]
    go_upto_region 3 with fail
    refine wp_region_lit ?_
    refine nR (.int .i64 c) (exec_move rfl rfl) ?_;simp only [zz];refine nR (.int .i64 (c.tmod 10)) (wx_rem rfl rfl rfl (by decide) (by have := HC.out; omega)) ?_;simp only [zz];refine nR (.int .i64 (c.tmod 10)) (gx_assign rfl rfl) ?_;simp only [zz]
    go_wp2_with fail
    go_ret
    exact ⟨by unfold amongI; rw [if_neg (show ¬ c < 0 by omega)]; rfl, rfl⟩
theorem sg_from {a : Act} {o : Oper} {W : World} {x z : Operand} {A : Option Addr} {n c j : Nat} (hj : j ≤ n) (hm : n ≤ c) (ho : o.op = .slice 30 x (some z) none none) (hx : a.eval x = .slice A n c) (hz : a.eval z = .int .i64 (j : Int)) : (execOp a.eval o).run Tryd.prog W = .ok (.value (.slice (fromK 1 A c j) (n - j) (c - j))) W :=
  exec_slice ho hx (congrArg some hz) rfl rfl (sl_from elmG8 A n c j hj hm W)
theorem gsz_drop {w : World} {Z : Nat → Prop} {A : Option Addr} {n c k : Nat} {gs : List Wl.Rec} (h : GsZ w Z (.slice A n c) gs) (hk : k ≤ n) : GsZ w Z (.slice (fromK 1 A c k) (n - k) (c - k)) (gs.drop k) := by
  obtain ⟨A', n', c', vs, e, h1, h2, h3, h4, h5, h6⟩ := h
  injection e with e1 e2 e3
  subst e1 e2 e3
  refine ⟨_, _, _, vs.drop k, rfl, by rw [List.map_drop]; exact rws_from h1 hk h5, by rw [List.length_drop, List.length_drop, h2], fun i u L hu hL => h3 (k + i) u L (by rwa [List.getElem?_drop] at hu) (by rwa [List.getElem?_drop] at hL), fun e => ?_, by omega, fun b off s e hp => ?_⟩
  · unfold fromK at e
    split at e
    · omega
    · cases A with
      | none => have := h4 rfl; omega
      | some a => cases e
  · unfold fromK at e
    rw [if_neg (by omega)] at e
    cases A with
    | none => cases e
    | some a =>
      obtain ⟨b0, o0, s0⟩ := a
      have e := Option.some.inj e
      have e1 : b0 = b := by
        have e2 := congrArg Addr.block e
        simp only [Addr.add] at e2
        split at e2 <;> exact e2
      rw [← e1]
      exact h6 b0 o0 s0 rfl (by omega)
def CutBP (w : World) (f k : Nat) (gs : List Wl.Rec) (Z : Nat → Prop) (r : Ending) (w' : World) : Prop := ∃ b', r = .returned (.pointer (some ⟨b', 0, none⟩)) ∧ Bk w' b' (f + k) (gs.drop k) (fun j => Z j ∨ w.heap.size ≤ j) ∧ Turn nowhere w w'
set_option maxRecDepth 20000 in
set_option maxHeartbeats 4000000 in
theorem cutB9_walk {w : World} {b f k : Nat} {gs : List Wl.Rec} {Z : Nat → Prop} (h : Bk w b f gs Z) (hk : k ≤ gs.length) (hf : f + gs.length ≤ 1000000000) :
    Calls Tryd.prog 19 #[.pointer (some ⟨b, 0, none⟩), .int .i64 ((f + k : Nat) : Int)] w (CutBP w f k gs Z) := by
  obtain ⟨u, hb, hg, hz⟩ := h
  obtain ⟨A, c, rfl, _, hc⟩ := hg.len
  obtain ⟨n, hn⟩ : ∃ n, n = gs.length := ⟨_, rfl⟩
  rw [← hn] at hb hf hg hk hc
  have HT := Lib.hid ((Turn.refl nowhere w).drew)
  have HB0 := Lib.hid (show Blk w.drew b 32 #[.int .i64 (f : Int), .slice A n c] from hb)
  have HGZ := Lib.hid ((gsz_drop hg hk).turn HT.out fun _ _ _ e => e)
  have HK := Lib.hid hk
  have HC := Lib.hid hc
  have HF := Lib.hid hf
  clear hb hg hn hz hk hc hf
  go_enter Tryd.func19, Tryd.ntmps19
  go_upto_region 0 with fail
  refine wp_region_lit ?_
  refine nR (.pointer none) (gx_assign rfl rfl) ?_;simp only [zz]
  go_upto_region 1 with fail
  refine wp_region_alw (fun W => Blk W b 32 #[.int .i64 (f : Int), .slice A n c]) (by kernel_rfl) ?_
  have hS0 := HB0.out
  generalize w.drew = wd at *
  refine alw_take (i := 0) (v := .int .i64 ((f + k : Nat) : Int)) rfl (by kernel_rfl) (by kernel_rfl) (fun _ _ _ h => h) (.inl ⟨by rfl, fun W hW => exec_move rfl rfl⟩) hS0 ?_
  simp only [zz]
  refine alw_take (i := 1) (v := .pointer (some ⟨b, 0, none⟩)) rfl (by kernel_rfl) (by kernel_rfl) (fun _ _ _ h => h) (.inl ⟨by rfl, fun W hW => exec_move rfl rfl⟩) hS0 ?_
  simp only [zz]
  refine alw_take (i := 2) (v := .pointer (some ⟨b, 0, none⟩)) rfl (by kernel_rfl) (by kernel_rfl) (fun _ _ _ h => h) (.inl ⟨by rfl, fun W hW => exec_nil rfl rfl⟩) hS0 ?_
  simp only [zz]
  refine alw_take (i := 3) (v := .pointer (some ⟨b, 1, none⟩)) rfl (by kernel_rfl) (by kernel_rfl) (fun _ _ _ h => h) (.inl ⟨by rfl, fun W hW => exec_field (off := 0) (d := 1) rfl rfl (by kernel_rfl)⟩) hS0 ?_
  simp only [zz]
  refine alw_take (i := 4) (v := .slice A n c) rfl (by kernel_rfl) (by kernel_rfl) (fun _ _ _ h => h) (.inl ⟨by rfl, fun W hW => exec_load1 rfl rfl (by kernel_rfl) (hW.cell 1)⟩) hS0 ?_
  simp only [zz]
  refine alw_take (i := 5) (v := .int .i64 ((f + k : Nat) : Int)) rfl (by kernel_rfl) (by kernel_rfl) (fun _ _ _ h => h) (.inl ⟨by rfl, fun W hW => exec_move rfl rfl⟩) hS0 ?_
  simp only [zz]
  refine alw_take (i := 6) (v := .pointer (some ⟨b, 0, none⟩)) rfl (by kernel_rfl) (by kernel_rfl) (fun _ _ _ h => h) (.inl ⟨by rfl, fun W hW => exec_move rfl rfl⟩) hS0 ?_
  simp only [zz]
  refine alw_take (i := 7) (v := .pointer (some ⟨b, 0, none⟩)) rfl (by kernel_rfl) (by kernel_rfl) (fun _ _ _ h => h) (.inl ⟨by rfl, fun W hW => exec_nil rfl rfl⟩) hS0 ?_
  simp only [zz]
  refine alw_take (i := 8) (v := .pointer (some ⟨b, 0, none⟩)) rfl (by kernel_rfl) (by kernel_rfl) (fun _ _ _ h => h) (.inl ⟨by rfl, fun W hW => exec_field (off := 0) (d := 0) rfl rfl (by kernel_rfl)⟩) hS0 ?_
  simp only [zz]
  refine alw_take (i := 9) (v := .int .i64 (f : Int)) rfl (by kernel_rfl) (by kernel_rfl) (fun _ _ _ h => h) (.inl ⟨by rfl, fun W hW => exec_load1 rfl rfl (by kernel_rfl) (hW.cell 0)⟩) hS0 ?_
  simp only [zz]
  refine alw_take (i := 10) (v := .int .i64 (k : Int)) rfl (by kernel_rfl) (by kernel_rfl) (fun _ _ _ h => h) (.inl ⟨by rfl, fun W hW => ix_sub rfl rfl rfl (by omega) (by have := HK.out; have := HF.out; omega)⟩) hS0 ?_
  simp only [zz]
  refine alw_take (i := 11) (v := .slice (fromK 1 A c k) (n - k) (c - k)) rfl (by kernel_rfl) (by kernel_rfl) (fun _ _ _ h => h) (.inl ⟨by rfl, fun W hW => sg_from HK.out HC.out rfl rfl rfl⟩) hS0 ?_
  simp only [zz]
  obtain ⟨A9, hA9⟩ : ∃ z, z = fromK 1 A c k := ⟨_, rfl⟩
  obtain ⟨m9, hm9⟩ : ∃ z, z = n - k := ⟨_, rfl⟩
  obtain ⟨c9, hc9⟩ : ∃ z, z = c - k := ⟨_, rfl⟩
  rw [← hA9, ← hm9, ← hc9] at HGZ ⊢
  clear hA9 hm9 hc9
  refine alw_take (i := 12) (v := .agg #[.int .i64 ((f + k : Nat) : Int), .slice A9 m9 c9]) rfl (by kernel_rfl) (by kernel_rfl) (fun _ _ _ h => h) (.inl ⟨by rfl, fun W hW => gx_build2 rfl rfl rfl (build_bk _ _ _ _ W)⟩) hS0 ?_
  simp only [zz]
  have hbn := Blk.new wd 32 #[.int .i64 ((f + k : Nat) : Int), .slice A9 m9 c9]
  have htb := (Turn.refl nowhere wd).alloc (.cells #[.int .i64 ((f + k : Nat) : Int), .slice A9 m9 c9] 32)
  have hbx := box_bk ((f + k : Nat) : Int) A9 m9 c9 wd
  obtain ⟨b9, hb9⟩ : ∃ z, z = wd.heap.size := ⟨_, rfl⟩
  rw [← hb9] at hbn hbx
  generalize wd.alloc (.cells #[.int .i64 ((f + k : Nat) : Int), .slice A9 m9 c9] 32) = w10 at *
  have HFIN := Lib.hid (show CutBP w f k gs Z (.returned (.pointer (some ⟨b9, 0, none⟩))) w10 from
    ⟨b9, rfl, ⟨_, hbn, (HGZ.out.turn htb fun _ _ _ e => e).mono fun j hj => .inl hj, .inr (by have := HT.out.size; omega)⟩, HT.out.trans htb fun _ _ e => e⟩)
  have HBX := Lib.hid hbx
  have HB10 := Lib.hid (HB0.out.turn htb fun e => e)
  clear hbn htb hbx hb9
  refine alw_step (i := 13) (by kernel_rfl) rfl rfl ?_
  intro K1 HK1
  refine wp_run (v := .pointer (some ⟨b9, 0, none⟩)) (gx_box rfl rfl HBX.out) ?_
  refine HK1.out _ _ ⟨HB10.out, ?_⟩
  clear HK1
  try simp only [zz]
  refine alw_take (i := 14) (v := .pointer (some ⟨b9, 0, none⟩)) rfl (by kernel_rfl) (by kernel_rfl) (fun _ _ _ h => h) (.inl ⟨by rfl, fun W hW => gx_assign rfl rfl⟩) HB10.out ?_
  simp only [zz]
  refine alw_done rfl ?_
  refine NoPanic.normal ?_
  try simp only [zz]
  go_wp2_with fail
  go_ret
  exact HFIN.out
section
variable {w wr w' : World} {B f b k : Nat} {L : List Wl.Rec} {bs : List Bo} {R : Rs}
theorem Cs.cutBook (hst : ∀ w w' G, R w G → Turn nowhere w w' → R w' G) (h : Cs w wr B bs R) (hw : Turn nowhere w wr) (hm : (b, f, L) ∈ bs) (hB : B ≤ 100000) (hk : k ≤ L.length) :
    Calls Tryd.prog 19 #[.pointer (some ⟨b, 0, none⟩), .int .i64 ((f + k : Nat) : Int)] wr fun r w' => Turn nowhere w w' ∧ ∃ b', r = .returned (.pointer (some ⟨b', 0, none⟩)) ∧ Cs w w' (B + 1) ((b', f + k, L.drop k) :: bs) R := by
  obtain ⟨G, Z, h1, h2, h3, h4⟩ := h
  obtain ⟨g1, g2⟩ := h4 _ hm
  have g2 : f + L.length ≤ B := g2
  refine (cutB9_walk g1 hk (by show f + L.length ≤ _; omega)).mono ?_
  rintro r w' ⟨b', rfl, hb, ht⟩
  refine ⟨hw.trans ht fun _ _ e => e, b', rfl, G, capZ (fun k => Z k ∨ wr.heap.size ≤ k) w'.heap.size, hst _ _ _ h1 ht, fun k hk => ⟨(h2 k hk).1, Nat.lt_of_lt_of_le (h2 k hk).2 ht.size⟩, fun k hk => ⟨hk.2, fun e => ?_⟩, fun e he => ?_⟩
  · rcases hk.1 with a | a
    · exact (h3 k a).2 e
    · have := (h2 k e).2
      omega
  · rcases List.mem_cons.1 he with rfl | he
    · refine ⟨hb.cap, ?_⟩
      show f + k + (L.drop k).length ≤ B + 1
      rw [List.length_drop]
      omega
    · exact ⟨(((h4 e he).1.still ht).mono fun k hk => .inl hk).cap, Nat.le_succ_of_le (h4 e he).2⟩
end
end Go.Proofs.YtbfeejkdlhdioaaDoor
namespace Go.Proofs.YtbfeejkdlhdioaaDoor
open Go.RowKit
open Wl (B8 Gp)
set_option linter.unusedVariables false
set_option linter.unusedSimpArgs false
set_option maxRecDepth 20000
theorem size_owop : (Tryd.prog.info? 36).map (·.size) = some 4 := by kernel_rfl
theorem zero_owop (w : World) : (zeroValue 36).run Tryd.prog w = .ok (.agg #[.int .i64 0, .int .i64 0, .slice none 0 0, .slice none 0 0]) w := by kernel_rfl
theorem owop_one (o : OpV) : ∀ v ∈ o.cells.toArray.toList, v.oneCell' = true := fun v hv => by
  simp only [OpV.cells, List.mem_cons, List.not_mem_nil, or_false] at hv
  rcases hv with rfl | rfl | rfl | rfl <;> rfl
theorem build_bk0' (W : World) : (Instr.build 32 #[]).run Tryd.prog W = .ok (.agg #[.int .i64 0, .slice none 0 0]) W := by kernel_rfl
theorem newer9 {w0 w1 w2 : World} {p : Nat} (h : Turn nowhere w0 w1) (hp : w0.heap.size ≤ p) (g : Turn (only p) w1 w2) : Turn nowhere w0 w2 := h.trans g fun k hk e => by
  obtain rfl : k = p := e
  omega
/-- Cs, and a variable -/
def Cv (v : Nat) (cs : Array Value) (w wr : World) (B : Nat) (bs : List Bo) (R : Rs) : Prop := ∃ G Z : Nat → Prop, R wr G ∧ (∀ k, G k → w.heap.size ≤ k ∧ k < wr.heap.size) ∧ (∀ k, Z k → k < wr.heap.size ∧ ¬ G k) ∧ Bks wr B Z bs ∧ Z v ∧ Blk wr v 36 cs
/-- what the disk may be behind a boot -/
def Dq (S f : Nat) (L : List Wl.Rec) (B : Nat) (mv nv : Value) (bs : List Bo) : Dp := fun X => Dk S f L B X ∨ (∃ m f2 L2, mv = .pointer (some ⟨m, 0, none⟩) ∧ (m, f2, L2) ∈ bs ∧ Dk S f2 L2 B X) ∨ (nv = .bool true ∧ NoLog X)
def Of9 (w wr : World) (p S : Nat) (n : Int) (B b f : Nat) (L : List Wl.Rec) (mv nv : Value) : Prop := ∃ bs : List Bo, (b, f, L) ∈ bs ∧ Cs w wr B bs (Rf p n B (Dq S f L B mv nv bs))
section
variable {w wr w' : World} {p x S f B b y9 : Nat} {n : Int} {L : List Wl.Rec} {bs : List Bo} {R R' : Rs} {c : Prop} {D E : Dp} {G G' Z : Nat → Prop} {cA : Array Value} {mv nv : Value}
theorem Cv.cs (h : Cv y9 cA w wr B bs R) : Cs w wr B bs R := by
  obtain ⟨G, Z, h1, h2, h3, h4, _⟩ := h
  exact ⟨G, Z, h1, h2, h3, h4⟩
theorem Cv.blk (h : Cv y9 cA w wr B bs R) : Blk wr y9 36 cA := by
  obtain ⟨G, Z, h1, h2, h3, h4, _, h5⟩ := h
  exact h5
theorem Cs.var (hst : ∀ w w' G, R w G → Turn nowhere w w' → R w' G) (h : Cs w wr B bs R) (ht : Turn nowhere wr w') (hv : wr.heap.size ≤ y9) (hb : Blk w' y9 36 cA) : Cv y9 cA w w' B bs R := by
  obtain ⟨G, Z, h1, h2, h3, h4⟩ := h
  refine ⟨G, capZ (fun k => Z k ∨ wr.heap.size ≤ k) w'.heap.size, hst _ _ _ h1 ht, fun k hk => ⟨(h2 k hk).1, Nat.lt_of_lt_of_le (h2 k hk).2 ht.size⟩, fun k hk => ⟨hk.2, fun e => ?_⟩, fun e he => ⟨(((h4 e he).1.still ht).mono fun k hk => .inl hk).cap, (h4 e he).2⟩, ⟨.inr hv, hb.lt⟩, hb⟩
  rcases hk.1 with a | a
  · exact (h3 k a).2 e
  · have := (h2 k e).2
    omega
theorem Cv.still (hst : ∀ w w' G, R w G → Turn nowhere w w' → R w' G) (h : Cv y9 cA w wr B bs R) (ht : Turn nowhere wr w') : Cv y9 cA w w' B bs R := by
  obtain ⟨G, Z, h1, h2, h3, h4, h5, h6⟩ := h
  exact ⟨G, Z, hst _ _ _ h1 ht, fun k hk => ⟨(h2 k hk).1, Nat.lt_of_lt_of_le (h2 k hk).2 ht.size⟩, fun k hk => ⟨Nat.lt_of_lt_of_le (h3 k hk).1 ht.size, (h3 k hk).2⟩, h4.turn ht (fun _ _ _ e => e) (Nat.le_refl _), h5, h6.turn ht fun e => e⟩
theorem cv_lift (hw : Turn nowhere w wr) (hG : ∀ k, G k → w.heap.size ≤ k ∧ k < wr.heap.size) (hZ : ∀ k, Z k → k < wr.heap.size ∧ ¬ G k) (hb : Bks wr B Z bs ∧ Z y9 ∧ Blk wr y9 36 cA) (ht : Turn G wr w') (hG' : ∀ k, G' k → G k ∨ wr.heap.size ≤ k) (hlt : ∀ k, G' k → k < w'.heap.size) (hR : R' w' G') {C : Nat} (hC : B ≤ C) : Turn nowhere w w' ∧ Cv y9 cA w w' C bs R' := by
  have hz := hw.size
  refine ⟨hw.trans ht fun k hk e => by have := (hG k e).1; omega, G', Z, hR, fun k hk => ⟨?_, hlt k hk⟩, fun k hk => ⟨Nat.lt_of_lt_of_le (hZ k hk).1 ht.size, fun e => ?_⟩, hb.1.turn ht (fun k hk _ => (hZ k hk).2) hC, hb.2.1, hb.2.2.turn ht (hZ _ hb.2.1).2⟩
  · rcases hG' k hk with e | e
    · exact (hG k e).1
    · omega
  · rcases hG' k e with e | e
    · exact (hZ k hk).2 e
    · have := (hZ k hk).1
      omega
theorem cv_liftN {f' B' x' : Nat} {L' : List Wl.Rec} (hw : Turn nowhere w wr) (hG : ∀ k, G k → w.heap.size ≤ k ∧ k < wr.heap.size) (hZ : ∀ k, Z k → k < wr.heap.size ∧ ¬ G k) (hb : Bks wr B Z bs ∧ Z y9 ∧ Blk wr y9 36 cA) (ht : Turn G wr w') (hG' : ∀ k, G' k → G k ∨ wr.heap.size ≤ k) (hR : Rn p x' S n f' B' L' w' G') {C : Nat} (hC : B ≤ C) : Turn nowhere w w' ∧ Cv y9 cA w w' C bs (Rn p x' S n f' B' L') := cv_lift hw hG hZ hb ht hG' hR.lt hR hC
theorem cv_liftF {B' : Nat} (hw : Turn nowhere w wr) (hG : ∀ k, G k → w.heap.size ≤ k ∧ k < wr.heap.size) (hZ : ∀ k, Z k → k < wr.heap.size ∧ ¬ G k) (hb : Bks wr B Z bs ∧ Z y9 ∧ Blk wr y9 36 cA) (ht : Turn G wr w') (hG' : ∀ k, G' k → G k ∨ wr.heap.size ≤ k) (hR : Rf p n B' D w' G') {C : Nat} (hC : B ≤ C) : Turn nowhere w w' ∧ Cv y9 cA w w' C bs (Rf p n B' D) := cv_lift hw hG hZ hb ht hG' hR.lt hR hC
theorem Cv.append (h : Cv y9 cA w wr B bs (Rn p x S n f B L)) (hw : Turn nowhere w wr) (hB : B ≤ 100000) {A : Option Addr} {m cap : Nat} {l : Wl.Rec} (hl : Ls wr A m l) (hnl : ¬ Wl.long l) :
    Calls Tryd.prog 13 #[.pointer (some ⟨x, 0, none⟩), .slice A m cap] wr fun r w' => Turn nowhere w w' ∧
      ((r = .returned (.tuple #[.int .i64 ((f + L.length : Nat) : Int), .int .i64 0]) ∧ Cv y9 cA w w' (B + 1) bs (Rn p x S n f (B + 1) (L ++ [l]))) ∨
       (r = .returned (.tuple #[.int .i64 0, .int .i64 3]) ∧ Cv y9 cA w w' (B + 1) bs (Rn p x S n f (B + 1) L)) ∨
       (r = .returned (.tuple #[.int .i64 0, .int .i64 2]) ∧ Cv y9 cA w w' (B + 1) bs (Rf p n (B + 1) (Dor (Dk S f L (B + 1)) (Dk S f (L ++ [l]) (B + 1)))))) := by
  obtain ⟨G, Z, ⟨F, s, K, d, v, vP, vH, gs, rfl, h1, h2, h3, h4, h5, h6, h7, h8⟩, hG, hZ, hb⟩ := h
  refine (h1.append (cap := cap) (by omega) (by omega) (by omega) hl).mono ?_
  rintro r w' (⟨hlo, _⟩ | ⟨_, _, rfl, ht⟩ | ⟨_, ht, F', s', hF, hpt, htb, htf, hj, (⟨_, rfl, _, P, d', vP', gs', hlg, hdn, hnw⟩ | ⟨_, rfl, hoff, htorn, _⟩)⟩)
  · exact absurd hlo hnl
  · obtain ⟨q1, q2⟩ := cv_liftN (bs := bs) hw hG hZ hb (ht.mono fun _ _ e => e.elim) (fun k hk => .inl hk) ⟨F, s, K, d, v, vP, vH, gs, rfl, h1.still ht, h2, h3, (by omega : f + L.length ≤ B + 1), h5, by omega, by omega, h8⟩ (Nat.le_succ B)
    exact ⟨q1, .inr (.inl ⟨rfl, q2⟩)⟩
  · have hc := cost_le hnl
    obtain ⟨q1, q2⟩ := cv_liftN (bs := bs) hw hG hZ hb ht (fun k hk => by
      rcases hk with e | e
      · rcases hF k e with e | e
        · exact .inl (.inl e)
        · exact .inr e
      · rcases hnw k e with e | e
        · exact .inl (.inr e)
        · exact .inr e) ⟨F', s', _, d', _, vP', vH, gs', rfl, hlg, h2.but hj hlg.ds hlg.dry, h3, (by rw [List.length_append]; show f + (L.length + 1) ≤ B + 1; omega), h5, (by show v.age ≤ _; omega), by omega, hdn.trans h8⟩ (Nat.le_succ B)
    exact ⟨q1, .inl ⟨by rw [h3], q2⟩⟩
  · have hc := cost_le hnl
    obtain ⟨q1, q2⟩ := cv_liftF (bs := bs) (B' := B + 1) (D := Dor (Dk S f L (B + 1)) (Dk S f (L ++ [l]) (B + 1))) hw hG hZ hb ht (fun k hk => by
      rcases hF k hk with e | e
      · exact .inl (.inl e)
      · exact .inr e) ⟨s', _, hpt, htb, htf, hoff, by omega, fun zs => by
        obtain ⟨d', q1, q2, q3, q4, q5⟩ := htorn zs
        rw [h3] at q4
        rw [h1.lv.on.gr] at q5
        exact ⟨fun j d9 hd9 => run_dry _ _ _ _ rfl j d9 hd9, d', q1, by rw [q2, h8], q4.imp (fun e => ⟨e, by omega⟩) (fun e => ⟨e, by omega⟩)⟩⟩ (Nat.le_succ B)
    exact ⟨q1, .inr (.inr ⟨rfl, q2⟩)⟩
theorem Cs.upN {B' C : Nat} (h : Cs w wr B bs (Rn p x S n f B' L)) (h1 : B ≤ C) (h2 : B' ≤ C) : Cs w wr C bs (Rn p x S n f C L) := h.imp (fun G hr => by
  obtain ⟨F, s, K, d, v, vP, vH, gs, g0, g1, g2, g3, g4, g5, g6, g7, g8⟩ := hr
  exact ⟨F, s, K, d, v, vP, vH, gs, g0, g1, g2, g3, by omega, g5, by omega, by omega, g8⟩) h1
theorem Cs.upF {B' C : Nat} (h : Cs w wr B bs (Rf p n B' D)) (hD : ∀ X, D X → E X) (h1 : B ≤ C) (h2 : B' ≤ C) : Cs w wr C bs (Rf p n C E) := h.imp (fun G hr => by
  obtain ⟨s, K, g1, g2, g3, g4, g5, g6⟩ := hr
  exact ⟨s, K, g1, g2, g3, g4, by omega, fun zs => by
    obtain ⟨q1, d, q2, q3, q4⟩ := g6 zs
    exact ⟨q1, d, q2, q3, hD _ q4⟩⟩) h1
theorem of_one {B' C : Nat} (h : Cs w wr C bs (Rf p n B' (Dk S f L B'))) (hb : (b, f, L) ∈ bs) (hC : B' ≤ C) : Of9 w wr p S n C b f L mv nv := ⟨bs, hb, h.upF (fun X hX => .inl (hX.mono hC)) (Nat.le_refl _) hC⟩
theorem of_two {B' C m f2 : Nat} {L2 : List Wl.Rec} (h : Cs w wr C bs (Rf p n B' (Dor (Dk S f L B') (Dk S f2 L2 B')))) (hb : (b, f, L) ∈ bs) (hm : (m, f2, L2) ∈ bs) (hC : B' ≤ C) : Of9 w wr p S n C b f L (.pointer (some ⟨m, 0, none⟩)) nv := ⟨bs, hb, h.upF (fun X hX => hX.elim (fun hX => .inl (hX.mono hC)) fun hX => .inr (.inl ⟨m, f2, L2, rfl, hm, hX.mono hC⟩)) (Nat.le_refl _) hC⟩
theorem of_fmt {B' C m : Nat} (h : Cs w wr C bs (Rf p n B' (Dor (Dk S f L B') (Dor NoLog (Dk S 0 [] B'))))) (hb : (b, f, L) ∈ bs) (hm : (m, 0, []) ∈ bs) (hC : B' ≤ C) : Of9 w wr p S n C b f L (.pointer (some ⟨m, 0, none⟩)) (.bool true) := ⟨bs, hb, h.upF (fun X hX => by
  rcases hX with hX | hX | hX
  · exact .inl (hX.mono hC)
  · exact .inr (.inr ⟨rfl, hX⟩)
  · exact .inr (.inl ⟨m, 0, [], rfl, hm, hX.mono hC⟩)) (Nat.le_refl _) hC⟩
theorem Of9.mono {C : Nat} (h : Of9 w wr p S n B b f L mv nv) (hC : B ≤ C) : Of9 w wr p S n C b f L mv nv := by
  obtain ⟨bs, h1, h2⟩ := h
  refine ⟨bs, h1, h2.upF (fun X hX => ?_) hC hC⟩
  rcases hX with hX | ⟨m, f2, L2, e, hm, hX⟩ | hX
  · exact .inl (hX.mono hC)
  · exact .inr (.inl ⟨m, f2, L2, e, hm, hX.mono hC⟩)
  · exact .inr (.inr hX)
theorem Of9.still (h : Of9 w wr p S n B b f L mv nv) (ht : Turn nowhere wr w') : Of9 w w' p S n B b f L mv nv := by
  obtain ⟨bs, h1, h2⟩ := h
  exact ⟨bs, h1, h2.still (fun _ _ _ => Rf.still) ht⟩
/-- what a boot found -/
theorem Cs.found (h : Cs w wr B bs (Rb p n B c (Dq S f L B mv nv bs))) : Cs w wr B bs (Rb p n B c (Dk S f L B)) ∨ (∃ m f2 L2, mv = .pointer (some ⟨m, 0, none⟩) ∧ (m, f2, L2) ∈ bs ∧ Cs w wr B bs (Rb p n B c (Dk S f2 L2 B))) ∨ (nv = .bool true ∧ Cs w wr B bs (Rb p n B c NoLog)) := by
  obtain ⟨G, Z, ⟨s, K, d, g1, g2, g3, g4, g5, g6, g7, g8, g9, g10⟩, h2⟩ := h
  rcases g10 with g | ⟨m, f2, L2, e, hm, g⟩ | ⟨e, g⟩
  · exact .inl ⟨G, Z, ⟨s, K, d, g1, g2, g3, g4, g5, g6, g7, g8, g9, g⟩, h2⟩
  · exact .inr (.inl ⟨m, f2, L2, e, hm, G, Z, ⟨s, K, d, g1, g2, g3, g4, g5, g6, g7, g8, g9, g⟩, h2⟩)
  · exact .inr (.inr ⟨e, G, Z, ⟨s, K, d, g1, g2, g3, g4, g5, g6, g7, g8, g9, g⟩, h2⟩)
/-- Boot, from the one and from the other -/
theorem Of9.boot (h : Of9 w wr p S n B b f L mv nv) (hw : Turn nowhere w wr) (hB : B ≤ 100000) {A : Option Addr} {m q : Nat} {zs : List Int} (hk : Ks w nowhere A m zs) :
    Calls Tryd.prog 27 #[.pointer (some ⟨p, 0, none⟩), .slice A m q] wr fun e w' => e = .returned (.tuple #[]) ∧ Turn nowhere w w' ∧ ∃ bs, (b, f, L) ∈ bs ∧ Cs w w' B bs (Rb p n B True (Dq S f L B mv nv bs)) := by
  obtain ⟨bs, h1, h2⟩ := h
  exact (h2.bootF hw hB hk).mono fun e w' ⟨g1, g2, g3⟩ => ⟨g1, g2, bs, h1, g3⟩
theorem Of9.isOff (h : Of9 w wr p S n B b f L mv nv) : Calls Tryd.prog 25 #[.pointer (some ⟨p, 0, none⟩)] wr fun e w' => e = .returned (.bool false) ∧ w' = wr := by
  obtain ⟨bs, h1, h2⟩ := h
  exact h2.isOff
end
/-- what ground makes, and the empty book -/
theorem ground_cs {w : World} (n : Nat) (hn : 258 ≤ n) (hn2 : n ≤ 65536) (htab : Tab w) : Calls Tryd.prog 11 #[.int .i64 (n : Int)] w fun r w' => Turn nowhere w w' ∧ ∃ p x, r = .returned (.tuple #[.pointer (some ⟨p, 0, none⟩), .pointer (some ⟨x, 0, none⟩)]) ∧ Cs w w' 0 [] (Rn p x ((n - 2) / 64) n 0 0 []) := by
  refine (ground_walk n hn hn2 htab).mono ?_
  rintro r w' ⟨ht, p, x, F, s, d, v, vP, vH, rfl, hlg, hfu, hvf, hva, hdn, hF, hG, hdr⟩
  exact ⟨ht, p, x, rfl, fun k => F k ∨ WalG x vP vH k, fun _ => False, ⟨F, s, _, d, v, vP, vH, [], rfl, hlg, hdr, hvf, Nat.le_refl _, hva.1, hva.2, by omega, hdn⟩, fun k hk => ⟨hk.elim (hF k) (hG k), hk.elim (fun e => hlg.pt.lt e) (fun e => hlg.glt e)⟩, fun k hk => hk.elim, fun e he => by cases he⟩
end Go.Proofs.YtbfeejkdlhdioaaDoor
