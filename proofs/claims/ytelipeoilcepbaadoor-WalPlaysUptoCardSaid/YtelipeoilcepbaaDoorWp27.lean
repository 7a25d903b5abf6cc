/-
  Texts in one file: WmD WmF WmG. Conditions: the tables and the errors read as the program's text lays them.
-/
import Derived.Test.YtelipeoilcepbaaDoorWp0
import Derived.Test.YtelipeoilcepbaaDoorWp26
import Derived.Test.YtelipeoilcepbaaDoorWp24
import Derived.Test.YtelipeoilcepbaaDoorWp16
namespace Go.Proofs.YtelipeoilcepbaaDoor
open Go.RowKit
open Wl (B8)
set_option linter.unusedVariables false
set_option linter.unusedSimpArgs false
set_option maxRecDepth 20000
def heldOf (S : Nat) (ps : List Nat) : List Nat := (List.range S).map fun sg => ps.countP fun P => decide ((P - 2) / 64 = sg)
theorem heldOf_len (S : Nat) (ps : List Nat) : (heldOf S ps).length = S := by simp [heldOf]
theorem heldOf_at {S sg : Nat} (ps : List Nat) (h : sg < S) : (heldOf S ps)[sg]? = some (ps.countP fun P => decide ((P - 2) / 64 = sg)) := by
  unfold heldOf
  rw [List.getElem?_map, List.getElem?_range h]; rfl
theorem heldOf_less {S P : Nat} (ps : List Nat) (h : (P - 2) / 64 < S) : ∃ n, (heldOf S (P :: ps))[(P - 2) / 64]? = some (n + 1) ∧ (heldOf S (P :: ps)).set ((P - 2) / 64) n = heldOf S ps := by
  refine ⟨ps.countP fun Q => decide ((Q - 2) / 64 = (P - 2) / 64), ?_, ?_⟩
  · rw [heldOf_at _ h, List.countP_cons]; simp
  · refine List.ext_getElem? fun j => ?_
    rw [List.getElem?_set]
    by_cases hj : (P - 2) / 64 = j
    · subst hj
      rw [if_pos rfl, if_pos (by rw [heldOf_len]; exact h), heldOf_at _ h]
    · rw [if_neg hj]
      by_cases hs : j < S
      · rw [heldOf_at _ hs, heldOf_at _ hs, List.countP_cons]
        simp [hj]
      · rw [List.getElem?_eq_none (by rw [heldOf_len]; omega), List.getElem?_eq_none (by rw [heldOf_len]; omega)]
theorem elmN : Elm Tryd.prog 34 3 1 8 (.int .i64 0) := ⟨Tryd.underlying34, by kernel_rfl, rfl, by decide, by decide⟩
theorem si_to {a : Act} {o : Oper} {W : World} {x z : Operand} {A : Option Addr} {n c j : Nat} (hm : j ≤ c) (ho : o.op = .slice 34 x none (some z) none) (hx : a.eval x = .slice A n c) (hz : a.eval z = .int .i64 (j : Int)) : (execOp a.eval o).run Tryd.prog W = .ok (.value (.slice A j c)) W :=
  exec_slice ho hx rfl (congrArg some hz) rfl (sl_to elmN A n c j hm W)
theorem si_from {a : Act} {o : Oper} {W : World} {x z : Operand} {A : Option Addr} {n c j : Nat} (hj : j ≤ n) (hm : n ≤ c) (ho : o.op = .slice 34 x (some z) none none) (hx : a.eval x = .slice A n c) (hz : a.eval z = .int .i64 (j : Int)) : (execOp a.eval o).run Tryd.prog W = .ok (.value (.slice (fromK 1 A c j) (n - j) (c - j))) W :=
  exec_slice ho hx (congrArg some hz) rfl rfl (sl_from elmN A n c j hj hm W)
theorem row1_drop {w : World} {A : Option Addr} {c k : Nat} {ns : List Nat} (h : Row1 w (.slice A ns.length c) ns) (hk : k ≤ ns.length) : Row1 w (.slice (fromK 1 A c k) (ns.length - k) (c - k)) (ns.drop k) ∧ ∀ b, (Value.slice (fromK 1 A c k) (ns.length - k) (c - k)).ownBlock = some b → (Value.slice A ns.length c).ownBlock = some b := by
  obtain ⟨A', c', e, h1, h2, h3⟩ := h
  injection e with e1 e2 e3
  subst e1 e3
  have hl : (ns.drop k).length = ns.length - k := List.length_drop
  rcases h3 with ⟨rfl, h0⟩ | ⟨g, off, cur, rfl, hg, hcs, hcc⟩
  · refine ⟨⟨_, _, by rw [hl], by omega, ⟨by have := h2.1; omega, by omega⟩, .inl ⟨?_, by omega⟩⟩, ?_⟩
    · unfold fromK; split <;> rfl
    · intro b e
      unfold fromK at e
      split at e <;> cases e
  · by_cases hck : c = k
    · subst hck
      have hn : ns.length - c = 0 := by omega
      refine ⟨⟨some ⟨g, off, none⟩, 0, by rw [hl]; simp [fromK], by omega, ⟨by unfold maxLen; omega, by omega⟩, .inr ⟨g, off, cur, rfl, hg, by omega, fun j n hj => ?_⟩⟩, fun b e => by
        have e2 : some g = some b := by simpa [fromK, Value.ownBlock] using e
        exact e2⟩
      have := (List.getElem?_eq_some_iff.1 hj).1
      omega
    · have hf : fromK 1 (some ⟨g, off, none⟩) c k = some ⟨g, off + k, none⟩ := by
        unfold fromK
        rw [if_neg hck]
        simp [add_at]
      rw [hf]
      refine ⟨⟨some ⟨g, off + k, none⟩, c - k, by rw [hl], by omega, ⟨by have := h2.1; omega, by omega⟩, .inr ⟨g, off + k, cur, rfl, hg, by omega, fun j n hj => ?_⟩⟩, fun b e => e⟩
      rw [List.getElem?_drop] at hj
      rw [Nat.add_assoc]
      exact hcc _ n hj
def WalV.cut (v : WalV) (k : Nat) : WalV := { v.turn (v.first + k) with places := v.places.drop k, held := heldOf v.held.length (v.places.drop k) }
def CutP (w : World) (F : Nat → Prop) (x p i : Nat) (v : WalV) (vP vH : Value) (d : AD) (s : AP) (K : Nat) (no : Int) (r : Ending) (w' : World) : Prop :=
  (¬ ((v.first : Int) ≤ no ∧ no ≤ (v.first : Int) + v.places.length) ∧ r = .returned (.int .i64 1) ∧ Turn nowhere w w') ∨
  ∃ (k : Nat) (e : Int) (s' : AP) (F' : Nat → Prop), no = ((v.first + k : Nat) : Int) ∧ k ≤ v.places.length ∧
    WLaid (Wl.lay (dkD d) (1 - v.slot) 1 (Wl.hst Crc.sumN (v.age + 1) (v.first + k)) Wl.z40) i d s e s' ∧
    PlantAt w' p F' s' (K + 2) ∧ Turn (fun b => F b ∨ WalG x vP vH b) w w' ∧ (∀ b, F' b → F b ∨ w.heap.size ≤ b) ∧ r = .returned (.int .i64 e) ∧
    ((e = 0 ∧ ∃ vP', WalB w' x p i (v.cut k) vP' vH ∧ (∀ b, vP'.ownBlock = some b → vP.ownBlock = some b)) ∨ (e ≠ 0 ∧ WalB w' x p i v vP vH))
set_option maxRecDepth 20000 in
set_option maxHeartbeats 4000000 in
theorem Cut_walk {w : World} {x p i : Nat} {v : WalV} {vP vH : Value} (h : WalB w x p i v vP vH) {F : Nat → Prop} {s : AP} {K : Nat} (hp : PlantAt w p F s K) (htab : Tab w) (d : AD) (hd : s.ds[i]? = some d) (hG : ∀ b, WalG x vP vH b → ¬ F b)
    (hsl : v.slot ≤ 1) (hag : v.age ≤ 1099511627776) (hfi : v.first ≤ 549755813888) (hpl : v.places.length ≤ 549755813888) (hP : ∀ (k P : Nat), v.places[k]? = some P → 2 ≤ P ∧ P ≤ 1048576 ∧ (P - 2) / 64 < v.held.length) (hhe : v.held = heldOf v.held.length v.places) (hn : 2 ≤ d.n) (hK : K + 2 < 1099511627775) (no : Int) (hno : -9223372036854775808 ≤ no ∧ no ≤ 9223372036854775807) :
    Calls Tryd.prog 13 #[.pointer (some ⟨x, 0, none⟩), .int .i64 no] w fun r w' => CutP w F x p i v vP vH d s K no r w' := by
  have H := Lib.hid h
  have HPL := Lib.hid hp
  have HTAB := Lib.hid htab
  have HD := Lib.hid hd
  have HG := Lib.hid hG
  have HPP := Lib.hid hP
  have HHE := Lib.hid hhe
  clear h hp htab hd hG hP hhe
  go_enter Tryd.func13, Tryd.ntmps13
  go_upto_region 0 with fail
  refine wp_region_lit ?_
  refine nR (.int .i64 0) (gx_assign rfl rfl) ?_;simp only [zz]
  by_cases hlo : no < (v.first : Int)
  · go_upto_region 1 with fail
    first
    | (rename_i K9 hK9; have HKC := Lib.hid hK9; clear hK9)
    | (rename_i K9 hK9 K8; have HKC := Lib.hid hK9; clear hK9)
    refine wp_region_lit ?_
    refine nR (.int .i64 no) (exec_move rfl rfl) ?_;simp only [zz];refine nR (.pointer (some ⟨x, 0, none⟩)) (exec_move rfl rfl) ?_;simp only [zz];refine nR (.pointer (some ⟨x, 0, none⟩)) (exec_nil rfl rfl) ?_;simp only [zz];refine nR (.pointer (some ⟨x, 2, none⟩)) (exec_field (off := 0) (d := 2) rfl rfl (by kernel_rfl)) ?_;simp only [zz];refine nR (.pointer (some ⟨x, 4, none⟩)) (exec_field (off := 2) (d := 2) rfl rfl (by kernel_rfl)) ?_;simp only [zz];refine nR (.int .i64 (v.first : Int)) (exec_load1 rfl rfl (by kernel_rfl) (H.out.blk.cell 4)) ?_;simp only [zz];refine nR (.bool true) (ix_lss rfl rfl rfl (decide_eq_true hlo)) ?_;simp only [zz];refine nR (.bool true) (exec_move rfl rfl) ?_;simp only [zz]
    go_wp2_with fail
    refine HKC.out _ _ ?_
    clear HKC
    go_upto_region 2 with fail
    refine wp_region_lit ?_
    refine nR (.int .i64 1) (gx_assign rfl rfl) ?_;simp only [zz]
    go_wp2_with fail
    go_ret
    exact .inl ⟨by omega, rfl, Turn.refl _ _⟩
  · go_upto_region 1 with fail
    refine wp_region_lit ?_
    refine nR (.int .i64 no) (exec_move rfl rfl) ?_;simp only [zz];refine nR (.pointer (some ⟨x, 0, none⟩)) (exec_move rfl rfl) ?_;simp only [zz];refine nR (.pointer (some ⟨x, 0, none⟩)) (exec_nil rfl rfl) ?_;simp only [zz];refine nR (.pointer (some ⟨x, 2, none⟩)) (exec_field (off := 0) (d := 2) rfl rfl (by kernel_rfl)) ?_;simp only [zz];refine nR (.pointer (some ⟨x, 4, none⟩)) (exec_field (off := 2) (d := 2) rfl rfl (by kernel_rfl)) ?_;simp only [zz];refine nR (.int .i64 (v.first : Int)) (exec_load1 rfl rfl (by kernel_rfl) (H.out.blk.cell 4)) ?_;simp only [zz];refine nR (.bool false) (ix_lss rfl rfl rfl (decide_eq_false hlo)) ?_;simp only [zz];refine nR (.bool false) (exec_move rfl rfl) ?_;simp only [zz];refine wpList_run (v := .int .i64 no) rfl (exec_move rfl rfl) ?_;simp only [zz];refine wpList_run (v := .pointer (some ⟨x, 0, none⟩)) rfl (exec_move rfl rfl) ?_;simp only [zz]
    refine wpList_op rfl fun K9 HK9 => ?_
    go_wp2_with fail
    refine (Next_walk H.out (by omega)).mono ?_
    rintro e w1 ⟨rfl, ht⟩
    refine HK9.out _ _ ?_
    clear HK9
    try simp only [zz]
    have HT1 := Lib.hid ht
    clear ht
    by_cases hhi : (v.first : Int) + v.places.length < no
    · refine wpList_run (v := .bool true) rfl (ix_gtr rfl rfl rfl (decide_eq_true (by omega))) ?_
      simp only [zz];refine nR (.bool true) (ix_pickF rfl rfl rfl) ?_;simp only [zz]
      go_upto_region 2 with fail
      refine wp_region_lit ?_
      refine nR (.int .i64 1) (gx_assign rfl rfl) ?_;simp only [zz]
      go_wp2_with fail
      go_ret
      exact .inl ⟨by omega, rfl, HT1.out⟩
    · refine wpList_run (v := .bool false) rfl (ix_gtr rfl rfl rfl (decide_eq_false (by omega))) ?_
      simp only [zz];refine nR (.bool false) (ix_pickF rfl rfl rfl) ?_;simp only [zz]
      obtain ⟨k, hk⟩ := Int.eq_ofNat_of_zero_le (show 0 ≤ no - v.first by omega)
      have hno2 : no = ((v.first + k : Nat) : Int) := by omega
      subst hno2
      have hkl : k ≤ v.places.length := by omega
      have H1 := Lib.hid (H.out.still HT1.out)
      clear hk hlo hhi
      go_upto_region 3 with fail
      refine wp_region_lit ?_
      refine nR (.int .i64 ((v.first + k : Nat) : Int)) (exec_move rfl rfl) ?_;simp only [zz];refine nR (.pointer (some ⟨x, 0, none⟩)) (exec_move rfl rfl) ?_;simp only [zz];refine nR (.pointer (some ⟨x, 0, none⟩)) (exec_nil rfl rfl) ?_;simp only [zz];refine nR (.pointer (some ⟨x, 2, none⟩)) (exec_field (off := 0) (d := 2) rfl rfl (by kernel_rfl)) ?_;simp only [zz];refine nR (.pointer (some ⟨x, 4, none⟩)) (exec_field (off := 2) (d := 2) rfl rfl (by kernel_rfl)) ?_;simp only [zz];refine nR (.int .i64 (v.first : Int)) (exec_load1 rfl rfl (by kernel_rfl) (H1.out.blk.cell 4)) ?_;simp only [zz];refine nR (.int .i64 (k : Int)) (ix_sub rfl rfl rfl (by omega) (by omega)) ?_;simp only [zz];refine nR (.int .i64 (k : Int)) (gx_assign rfl rfl) ?_;simp only [zz]
      go_upto_region 4 with fail
      refine wp_region_lit ?_
      refine nR (.pointer (some ⟨x, 0, none⟩)) (exec_move rfl rfl) ?_;simp only [zz];refine nR (.int .i64 ((v.first + k : Nat) : Int)) (exec_move rfl rfl) ?_;simp only [zz]
      refine wpList_op rfl fun K9 HK9 => ?_
      go_wp2_with fail
      refine (renew_walk H1.out (HPL.out.turn HT1.out fun _ _ e => e) (tab_still HTAB.out HT1.out) d HD.out HG.out hsl hag (v.first + k) (by omega) hn hK).mono ?_
      rintro e w2 ⟨e2, s2, F2, rfl, hl, hp2, ht2, hf2, hw2⟩
      refine HK9.out _ _ ?_
      clear HK9
      try simp only [zz]
      have HL := Lib.hid hl
      have HP2 := Lib.hid hp2
      have HT2 := Lib.hid (show Turn (fun b => F b ∨ WalG x vP vH b) w w2 from (HT1.out.mono fun _ _ e => e.elim).trans ht2 fun b _ e => e.imp id .inl)
      have HF2 := Lib.hid (show ∀ b, F2 b → F b ∨ w.heap.size ≤ b from fun b e => (hf2 b e).imp id fun e => Nat.le_trans HT1.out.size e)
      have HW2 := Lib.hid hw2
      have HGL := Lib.hid (show ∀ b, WalG x vP vH b → b < w.heap.size from fun b hb => by
        rcases hb with e | e | e
        · rw [e]; exact H.out.blk.lt
        · exact (H.out.pl.lt e).1
        · exact (H.out.he.lt e).1)
      clear hl hp2 ht2 hf2 hw2
      refine nR (.int .i64 e2) (gx_assign rfl rfl) ?_;simp only [zz]
      by_cases he : e2 = 0
      · subst he
        obtain ⟨AP_, cP, hvP⟩ := H.out.pl.form
        subst hvP
        have HW0 := Lib.hid (show WalB w2 x p i { v.turn (v.first + k) with held := heldOf v.held.length (v.places.drop 0) } (.slice AP_ v.places.length cP) vH from by
          have h := HW2.out
          rw [if_pos rfl] at h
          have e : v.turn (v.first + k) = { v.turn (v.first + k) with held := heldOf v.held.length (v.places.drop 0) } := by
            rw [List.drop_zero, ← HHE.out]
            rfl
          rwa [e] at h)
        have HCP := Lib.hid (show v.places.length ≤ cP by
          obtain ⟨A', c', e, h1, _⟩ := H.out.pl
          injection e with e1 e2 e3
          omega)
        clear HW2
        go_upto_region 5 with fail
        refine wp_region_lit ?_
        refine nR (.int .i64 0) (exec_move rfl rfl) ?_;simp only [zz];refine nR (.bool false) (ix_neq rfl rfl rfl (by decide)) ?_;simp only [zz]
        go_upto_region 7 with fail
        refine wp_region_lit ?_
        refine nR (.pointer (some ⟨x, 0, none⟩)) (exec_move rfl rfl) ?_;simp only [zz];refine nR (.pointer (some ⟨x, 0, none⟩)) (exec_nil rfl rfl) ?_;simp only [zz];refine nR (.pointer (some ⟨x, 6, none⟩)) (exec_field (off := 0) (d := 6) rfl rfl (by kernel_rfl)) ?_;simp only [zz];refine nR (.slice AP_ v.places.length cP) (exec_load1 rfl rfl (by kernel_rfl) (HW0.out.blk.cell 6)) ?_;simp only [zz];refine nR (.int .i64 (k : Int)) (exec_move rfl rfl) ?_;simp only [zz];refine nR (.slice AP_ k cP) (si_to (by have := HCP.out; omega) rfl rfl rfl) ?_;simp only [zz];refine nR (.int .i64 (k : Int)) (gx_len rfl rfl Tryd.underlying34) ?_;simp only [zz];refine nR (.int .i64 0) (exec_move rfl rfl) ?_;simp only [zz]
        go_wp2_with fail
        go_loopg [42] k (fun gk iv wr => ∃ j : Nat, iv = .int .i64 (j : Int) ∧ j + gk = k ∧ WalB wr x p i { v.turn (v.first + k) with held := heldOf v.held.length (v.places.drop j) } (.slice AP_ v.places.length cP) vH ∧ PlantAt wr p F2 s2 (K + 2) ∧ Turn (fun b => F b ∨ WalG x (.slice AP_ v.places.length cP) vH b) w wr)
        case atStart => exact ⟨0, rfl, by omega, HW0.out, HP2.out, HT2.out⟩
        clear HW0 HP2 HT2
        obtain ⟨j, rfl, hgk, hwb, hpl2, htr⟩ := hrel
        have HGK := Lib.hid hgk
        have HWB := Lib.hid hwb
        have HP2 := Lib.hid hpl2
        have HT2 := Lib.hid htr
        have yj : j ≤ k := by omega
        clear hgk hwb hpl2 htr
        by_cases hlt : j < k
        · have HLT := Lib.hid hlt
          obtain ⟨P, hP⟩ : ∃ P, v.places[j]? = some P := ⟨_, List.getElem?_eq_getElem (by omega)⟩
          have hpp := HPP.out j P hP
          obtain ⟨gP, oP, cP2, hvP, hcell⟩ := HWB.out.pl.at_ (show (v.turn (v.first + k)).places[j]? = some P from hP)
          injection hvP with hv1 hv2 hv3
          subst hv1 hv3
          obtain ⟨sg, hsg⟩ : ∃ sg, sg = (P - 2) / 64 := ⟨_, rfl⟩
          have hdr : v.places.drop j = P :: v.places.drop (j + 1) := by
            obtain ⟨h1, h2⟩ := List.getElem?_eq_some_iff.1 hP
            rw [List.drop_eq_getElem_cons h1, h2]
          obtain ⟨n, hn1, hn2⟩ := heldOf_less (v.places.drop (j + 1)) hpp.2.2
          rw [← hdr, ← hsg] at hn1 hn2
          have HSG := Lib.hid hsg
          have HCE := Lib.hid hcell
          have HN2 := Lib.hid hn2
          obtain ⟨gH, oH, cH, hvH, hcH⟩ := HWB.out.he.at_ (show (heldOf v.held.length (v.places.drop j))[sg]? = some (n + 1) from hn1)
          have hln : (heldOf v.held.length (v.places.drop j)).length = v.held.length := heldOf_len _ _
          have HSL := Lib.hid (show sg < v.held.length by rw [hsg]; exact hpp.2.2)
          rw [hln] at hvH
          have HVH := Lib.hid hvH
          have HCH := Lib.hid hcH
          have yP : 2 ≤ P ∧ P ≤ 1048576 := ⟨hpp.1, hpp.2.1⟩
          have ynn : n + 1 ≤ 1099511627776 := by
            have h1 := heldOf_at (v.places.drop j) HSL.out
            rw [hn1] at h1
            injection h1 with h1
            have h2 : (v.places.drop j).countP (fun Q => decide ((Q - 2) / 64 = sg)) ≤ (v.places.drop j).length := List.countP_le_length
            rw [List.length_drop] at h2
            omega
          clear hP hpp hcell hsg hdr hn1 hn2 hvH hcH hln
          go_upto_region 8 with fail
          refine wp_region_lit ?_
          refine nR (.bool true) (ix_lss rfl rfl rfl (decide_eq_true (by omega))) ?_;simp only [zz]
          go_upto_region 9 with fail
          refine wp_region_lit ?_
          refine nR (.pointer (some ⟨gP, oP + j, none⟩)) (gx_iaddr (i := j) (sz := 1) rfl rfl rfl Tryd.underlying34 size_int HLT.out (by omega)) ?_;simp only [zz];refine nR (.int .i64 (P : Int)) (exec_load1 rfl rfl (by kernel_rfl) HCE.out) ?_;simp only [zz];refine nR (.int .i64 (P : Int)) (gx_assign rfl rfl) ?_;simp only [zz]
          go_upto_region 10 with fail
          refine wp_region_till (fun W => Blk W x 64 (walC p i { v.turn (v.first + k) with held := heldOf v.held.length (v.places.drop j) } (.slice (some ⟨gP, oP, none⟩) v.places.length cP) vH) ∧ W.cell? ⟨gH, oH + sg, none⟩ = some (.int .i64 ((n + 1 : Nat) : Int))) 10 (by kernel_rfl) ?_
          have hS0 : (fun W => Blk W x 64 (walC p i { v.turn (v.first + k) with held := heldOf v.held.length (v.places.drop j) } (.slice (some ⟨gP, oP, none⟩) v.places.length cP) vH) ∧ W.cell? ⟨gH, oH + sg, none⟩ = some (.int .i64 ((n + 1 : Nat) : Int))) wr.drew := ⟨HWB.out.blk.drew, HCH.out⟩
          have HDW := Lib.hid ((Turn.refl nowhere wr).drew)
          generalize wr.drew = wd at *
          refine till_take (i := 0) (v := .pointer (some ⟨x, 0, none⟩)) rfl (by kernel_rfl) (by kernel_rfl) (fun _ _ _ h => h) (.inl ⟨by rfl, fun W hW => exec_move rfl rfl⟩) hS0 ?_
          simp only [zz]
          refine till_take (i := 1) (v := .pointer (some ⟨x, 0, none⟩)) rfl (by kernel_rfl) (by kernel_rfl) (fun _ _ _ h => h) (.inl ⟨by rfl, fun W hW => exec_nil rfl rfl⟩) hS0 ?_
          simp only [zz]
          refine till_take (i := 2) (v := .pointer (some ⟨x, 7, none⟩)) rfl (by kernel_rfl) (by kernel_rfl) (fun _ _ _ h => h) (.inl ⟨by rfl, fun W hW => exec_field (off := 0) (d := 7) rfl rfl (by kernel_rfl)⟩) hS0 ?_
          simp only [zz]
          refine till_take (i := 3) (v := .slice (some ⟨gH, oH, none⟩) v.held.length cH) rfl (by kernel_rfl) (by kernel_rfl) (fun _ _ _ h => h) (.inl ⟨by rfl, fun W hW => exec_load1 rfl rfl (by kernel_rfl) ((hW.1.cell 7).trans (by rw [← HVH.out]; rfl))⟩) hS0 ?_
          simp only [zz]
          refine till_take (i := 4) (v := .int .i64 (P : Int)) rfl (by kernel_rfl) (by kernel_rfl) (fun _ _ _ h => h) (.inl ⟨by rfl, fun W hW => exec_move rfl rfl⟩) hS0 ?_
          simp only [zz]
          refine till_step (i := 5) (by kernel_rfl) rfl rfl ?_
          intro K1 HK1
          go_wp2_with fail
          refine (segmentOf_walk wd P yP.1 yP.2).mono ?_
          rintro e wd ⟨rfl, rfl⟩
          rw [← HSG.out]
          refine HK1.out _ _ ⟨fun _ => hS0, ?_⟩
          clear HK1
          try simp only [zz]
          refine till_take (i := 6) (v := .pointer (some ⟨gH, oH + sg, none⟩)) rfl (by kernel_rfl) (by kernel_rfl) (fun _ _ _ h => h) (.inl ⟨by rfl, fun W hW => gx_iaddr (i := sg) (sz := 1) rfl rfl rfl Tryd.underlying34 size_int HSL.out (by omega)⟩) hS0 ?_
          simp only [zz]
          refine till_take (i := 7) (v := .int .i64 ((n + 1 : Nat) : Int)) rfl (by kernel_rfl) (by kernel_rfl) (fun _ _ _ h => h) (.inl ⟨by rfl, fun W hW => exec_load1 rfl rfl (by kernel_rfl) hW.2⟩) hS0 ?_
          simp only [zz]
          refine till_take (i := 8) (v := .int .i64 (n : Int)) rfl (by kernel_rfl) (by kernel_rfl) (fun _ _ _ h => h) (.inl ⟨by rfl, fun W hW => ix_sub rfl rfl rfl (by omega) (by omega)⟩) hS0 ?_
          simp only [zz]
          refine till_take (i := 9) (v := .pointer (some ⟨gH, oH + sg, none⟩)) rfl (by kernel_rfl) (by kernel_rfl) (fun _ _ _ h => h) (.inl ⟨by rfl, fun W hW => gx_iaddr (i := sg) (sz := 1) rfl rfl rfl Tryd.underlying34 size_int HSL.out (by omega)⟩) hS0 ?_
          simp only [zz]
          refine till_tail 10 rfl (by kernel_rfl) ?_
          have HWD := Lib.hid (HWB.out.still HDW.out)
          have HPD := Lib.hid (HP2.out.turn HDW.out fun _ _ e => e)
          have HTD := Lib.hid (HT2.out.trans (HDW.out.mono fun _ _ e => e.elim) fun _ _ e => e)
          clear hS0
          obtain ⟨cur, hcur⟩ := (HWD.out.he.lt (b := gH) (by rw [HVH.out]; rfl)).2
          have hsz : oH + sg < cur.size := by
            have h1 := HCH.out
            have h2 : wd.cell? ⟨gH, oH + sg, none⟩ = wr.cell? ⟨gH, oH + sg, none⟩ := HDW.out.cell (World.block_lt_of_cell? _ _ h1) fun e => e
            rw [← h2, hcur.cell] at h1
            exact (Array.getElem?_eq_some_iff.1 h1).1
          refine wpList_storeU (oH + sg) (nv n) (wanted_none rfl) 3 (.tmp 55) (.tmp 54) rfl hcur rfl rfl hsz ⟨rfl, rfl⟩ size_int ?_
          intro w5 hb ht
          have hgG : WalG x (.slice (some ⟨gP, oP, none⟩) v.places.length cP) vH gH := .inr (.inr (by rw [HVH.out]; rfl))
          have HW5 := Lib.hid (show WalB w5 x p i { v.turn (v.first + k) with held := heldOf v.held.length (v.places.drop (j + 1)) } (.slice (some ⟨gP, oP, none⟩) v.places.length cP) vH from ⟨HWD.out.blk.turn (F := only gH) ht (fun e => by
              have e : x = gH := e
              exact Blk.ne_ HWD.out.blk hcur (by decide) e), HWD.out.pl.turn (F := only gH) ht (fun b e e2 => HWD.out.apart b e (by rw [HVH.out]; exact congrArg some (show b = gH from e2).symm)), by
              have h := row1_set (n := n) HWD.out.he (by rw [HVH.out, heldOf_len]) (by rw [heldOf_len]; exact HSL.out) (fun cur' hcur' => by rw [← Blk.inj hcur hcur']; exact hb)
              rw [← HN2.out]
              exact h, HWD.out.apart⟩)
          have HP5 := Lib.hid (HPD.out.turn ht fun b hF e => by
              have e : b = gH := e
              rw [e] at hF
              rcases HF2.out gH hF with h | h
              · exact HG.out gH hgG h
              · have := HGL.out gH hgG; omega)
          have HT5 := Lib.hid (HTD.out.trans ht fun b _ e => .inr (by have e : b = gH := e; rw [e]; exact hgG))
          clear hb ht hcur hsz hgG
          simp only [zz]
          refine wpList_nil ?_
          refine NoPanic.normal ?_
          try simp only [zz]
          go_upto_region 11 with fail
          refine wp_region_lit ?_
          refine nR (.int .i64 ((j + 1 : Nat) : Int)) (ix_add rfl rfl rfl (by omega) (by omega)) ?_;simp only [zz];refine nR (.int .i64 ((j + 1 : Nat) : Int)) (exec_move rfl rfl) ?_;simp only [zz]
          go_wp2_with fail
          go_roundg (k - (j + 1))
          case measure => have := HGK.out; have := HLT.out; omega
          case rel => exact ⟨j + 1, rfl, by have := HLT.out; omega, HW5.out, HP5.out, HT5.out⟩
        · obtain rfl : j = k := by omega
          obtain ⟨hrow, hown⟩ := row1_drop HWB.out.pl hkl
          have HROW := Lib.hid hrow
          have HOWN := Lib.hid hown
          obtain ⟨vQ, hvQ⟩ : ∃ q, q = Value.slice (fromK 1 AP_ cP j) (v.places.length - j) (cP - j) := ⟨_, rfl⟩
          have HVQ := Lib.hid hvQ
          have HROW2 := Lib.hid (show Row1 wr vQ (v.places.drop j) from by rw [hvQ]; exact hrow)
          have HOWN2 := Lib.hid (show ∀ b, vQ.ownBlock = some b → (Value.slice AP_ v.places.length cP).ownBlock = some b from fun b e => hown b (by rw [hvQ] at e; exact e))
          clear hrow hown hvQ
          go_upto_region 8 with fail
          refine wp_region_lit ?_
          refine nR (.bool false) (ix_lss rfl rfl rfl (decide_eq_false (by omega))) ?_;simp only [zz]
          go_upto_region 12 with fail
          refine wp_region_lit ?_
          refine nR (.pointer (some ⟨x, 0, none⟩)) (exec_move rfl rfl) ?_;simp only [zz];refine nR (.pointer (some ⟨x, 0, none⟩)) (exec_move rfl rfl) ?_;simp only [zz];refine nR (.pointer (some ⟨x, 0, none⟩)) (exec_nil rfl rfl) ?_;simp only [zz];refine nR (.pointer (some ⟨x, 6, none⟩)) (exec_field (off := 0) (d := 6) rfl rfl (by kernel_rfl)) ?_;simp only [zz];refine nR (.slice AP_ v.places.length cP) (exec_load1 rfl rfl (by kernel_rfl) (HWB.out.blk.cell 6)) ?_;simp only [zz];refine nR (.int .i64 (j : Int)) (exec_move rfl rfl) ?_;simp only [zz];refine nR (vQ) ((si_from hkl HCP.out rfl rfl rfl).trans (by rw [HVQ.out])) ?_;simp only [zz];refine nR (.pointer (some ⟨x, 0, none⟩)) (exec_nil rfl rfl) ?_;simp only [zz];refine nR (.pointer (some ⟨x, 6, none⟩)) (exec_field (off := 0) (d := 6) rfl rfl (by kernel_rfl)) ?_;simp only [zz]
          refine wpList_storeU 6 vQ (wanted_none rfl) 34 (.tmp 65) (.tmp 63) rfl HWB.out.blk rfl rfl (by show 6 < 10; decide) HROW2.out.one (by kernel_rfl) ?_
          intro w6 hb ht
          have HB6 := Lib.hid (show Blk w6 x 64 (walC p i (v.cut j) vQ vH) from hb)
          have hnx : ∀ b cur, Blk wr b 3 cur → ¬ only x b := fun b cur hcur e => Blk.ne_ HWB.out.blk hcur (by decide) (show b = x from e).symm
          have HW6 := Lib.hid (show WalB w6 x p i (v.cut j) vQ vH from ⟨hb, HROW2.out.turn ht fun b e => by
              obtain ⟨cur, hcur⟩ := (HROW2.out.lt e).2
              exact hnx b cur hcur, HWB.out.he.turn ht fun b e => by
              obtain ⟨cur, hcur⟩ := (HWB.out.he.lt e).2
              exact hnx b cur hcur, fun b e => HWB.out.apart b (HOWN2.out b e)⟩)
          have HP6 := Lib.hid (HP2.out.turn ht fun b hF e => by
              have e : b = x := e
              rw [e] at hF
              rcases HF2.out x hF with h | h
              · exact HG.out x (.inl rfl) h
              · have := HGL.out x (.inl rfl); omega)
          have HT6 := Lib.hid (HT2.out.trans ht fun b _ e => .inr (.inl e))
          clear hb ht hnx
          simp only [zz]
          go_upto_region 13 with fail
          refine wp_region_lit ?_
          refine nR (.int .i64 0) (gx_assign rfl rfl) ?_;simp only [zz]
          go_wp2_with fail
          go_ret
          exact .inr ⟨j, 0, s2, F2, rfl, hkl, HL.out, HP6.out, HT6.out, HF2.out, rfl, .inl ⟨rfl, vQ, HW6.out, HOWN2.out⟩⟩
      · go_upto_region 5 with fail
        refine wp_region_lit ?_
        refine nR (.int .i64 e2) (exec_move rfl rfl) ?_;simp only [zz];refine nR (.bool true) (ix_neq rfl rfl rfl (decide_eq_true he)) ?_;simp only [zz]
        go_upto_region 6 with fail
        refine wp_region_lit ?_
        refine nR (.int .i64 e2) (exec_move rfl rfl) ?_;simp only [zz];refine nR (.int .i64 e2) (gx_assign rfl rfl) ?_;simp only [zz]
        go_wp2_with fail
        go_ret
        have hw := HW2.out
        rw [if_neg he] at hw
        exact .inr ⟨k, e2, s2, F2, rfl, hkl, HL.out, HP2.out, HT2.out, HF2.out, rfl, .inr ⟨he, hw⟩⟩
end Go.Proofs.YtelipeoilcepbaaDoor
namespace Go.Proofs.YtelipeoilcepbaaDoor
open Go.RowKit
open Wl (B8)
set_option linter.unusedVariables false
set_option linter.unusedSimpArgs false
set_option maxRecDepth 20000
open Wl (Hd Hw)
theorem Nw.two {D : Wl.Disk} {x : Nwx} (h : Nw D 2 x) : ∃ b0 b1 : Bool, (b0 = true ↔ Hw Crc.sumN D 0) ∧ (b1 = true ↔ Hw Crc.sumN D 1) ∧ x = nwStep D 1 b1 (nwStep D 0 b0 ⟨0, 0, 0, false, 0⟩) := by
  obtain ⟨y, b1, ⟨y0, b0, h0, hb0, rfl⟩, hb1, rfl⟩ := h
  have h0 : y0 = ⟨0, 0, 0, false, 0⟩ := h0
  subst h0
  exact ⟨b0, b1, hb0, hb1, rfl⟩
theorem Nw.grt {D : Wl.Disk} {x : Nwx} (h : Nw D 2 x) : x.g = Wl.grt D := by
  obtain ⟨b0, b1, _, _, rfl⟩ := h.two
  unfold nwStep Wl.grt
  split <;> split <;> simp
theorem Nw.q_lt {D : Wl.Disk} {x : Nwx} (h : Nw D 2 x) : x.q ≤ 1 := by
  obtain ⟨b0, b1, h0, h1, rfl⟩ := h.two
  unfold nwStep
  cases b0 <;> cases b1 <;> simp
  all_goals (split <;> simp)
theorem Nw.hd {D : Wl.Disk} {x : Nwx} {slot a f : Nat} (h : Nw D 2 x) (hh : Hd Crc.sumN D slot a f) : x.q = slot ∧ x.f = f ∧ x.wh = true := by
  obtain ⟨b0, b1, h0, h1, rfl⟩ := h.two
  have hlt := hh.lt
  have hw := hh.hw
  have hold := hh.old
  have hage := hh.age
  have hno := hh.no
  match slot, hlt with
  | 0, _ =>
    obtain rfl : b0 = true := h0.2 hw
    have e1 : ¬ (b1 = true ∧ (Wl.stampOf D 0).age < (Wl.stampOf D 1).age) := by
      rintro ⟨e, e2⟩
      rcases hold with h | h
      · exact h (h1.1 e)
      · rw [show 1 - 0 = 1 from rfl] at h; omega
    unfold nwStep
    cases b1 with
    | false => simp [hno]
    | true =>
      have e2 : ¬ (Wl.stampOf D 0).age < (Wl.stampOf D 1).age := fun e => e1 ⟨rfl, e⟩
      simp [e2, hno]
  | 1, _ =>
    obtain rfl : b1 = true := h1.2 hw
    have e1 : b0 = true → (Wl.stampOf D 0).age < (Wl.stampOf D 1).age := by
      intro e
      rcases hold with h | h
      · exact absurd (h0.1 e) h
      · rw [show 1 - 1 = 0 from rfl] at h; omega
    unfold nwStep
    cases b0 with
    | false => simp [hno]
    | true =>
      have e2 := e1 rfl
      simp [e2, hno]
end Go.Proofs.YtelipeoilcepbaaDoor
namespace Go.Proofs.YtelipeoilcepbaaDoor
open Go.RowKit
open Wl (B8)
set_option linter.unusedVariables false
set_option linter.unusedSimpArgs false
set_option maxRecDepth 20000
def fmtN (D : Wl.Disk) (q S : Nat) : Nat → Wl.Disk
  | 0 => D
  | 1 => erD D (1 - q) 1
  | 2 => erD (erD D (1 - q) 1) q 1
  | 3 => erD (erD (erD D (1 - q) 1) q 1) 2 (64 * S)
  | _ => Wl.lay (erD (erD (erD D (1 - q) 1) q 1) 2 (64 * S)) 0 1 (Wl.hst Crc.sumN 1 0) Wl.z40
structure Fmt (D : Wl.Disk) (q S i : Nat) (d : AD) (s : AP) (j : Nat) (sr : AP) (dr : AD) : Prop where
  on : sr.on = s.on
  ds : sr.ds = s.ds.set i dr
  n : dr.n = d.n
  dry : 0 < j ∨ d.ws = [] → dr.ws = []
  dk : dkD dr = fmtN D q S j
  fuse : s.fuse < 0 → sr.fuse = s.fuse
theorem Fmt.at_ {D : Wl.Disk} {q S i j : Nat} {d dr : AD} {s sr : AP} (h : Fmt D q S i d s j sr dr) (hd : s.ds[i]? = some d) : sr.ds[i]? = some dr := by
  rw [h.ds, List.getElem?_set_self (List.getElem?_eq_some_iff.1 hd).1]
theorem Fmt.next {D : Wl.Disk} {q S i j : Nat} {d dr : AD} {s sr s' : AP} (h : Fmt D q S i d s j sr dr) (hl : WLaid (fmtN D q S (j + 1)) i dr sr 0 s') : ∃ d', Fmt D q S i d s (j + 1) s' d' := by
  rcases hl with ⟨_, h1, h2, h3, d', h4, h5, h6, h7⟩ | ⟨h0, _⟩
  · exact ⟨d', h2.trans (h1.symm.trans h.on), by rw [h4, h.ds, List.set_set], h5.trans h.n, fun _ => h6, h7, fun hf => by have := h.fuse hf; exact (h3.1 (by omega)).trans this⟩
  · cases h0
def fmtA (q : Nat) : Nat → Nat
  | 0 => 1 - q
  | 1 => q
  | _ => 2
def fmtC (S : Nat) : Nat → Nat
  | 0 => 1
  | 1 => 1
  | _ => 64 * S
theorem fmtN_succ {D : Wl.Disk} {q S j : Nat} (h : j < 3) : fmtN D q S (j + 1) = erD (fmtN D q S j) (fmtA q j) (fmtC S j) := by
  match j, h with
  | 0, _ | 1, _ | 2, _ => rfl
def FormatP (w : World) (F : Nat → Prop) (p : Nat) (dev : Int) (s : AP) (K : Nat) (r : Ending) (w' : World) : Prop :=
  (segsP s dev = 0 ∧ r = .returned (.int .i64 1) ∧ Turn nowhere w w') ∨
  (segsP s dev ≠ 0 ∧ s.on = false ∧ r = .returned (.int .i64 2) ∧ Turn nowhere w w') ∨
  (segsP s dev ≠ 0 ∧ s.on = true ∧ ∃ (i : Nat) (d : AD) (x : Nwx) (j : Nat) (sr : AP) (dr : AD) (e : Int) (s' : AP) (F' : Nat → Prop), dev = (i : Int) ∧ s.ds[i]? = some d ∧ Nw (dkD d) 2 x ∧ j ≤ 3 ∧
    Fmt (dkD d) x.q (segsP s dev) i d s j sr dr ∧ WLaid (fmtN (dkD d) x.q (segsP s dev) (j + 1)) i dr sr e s' ∧ (e = 0 ↔ j = 3 ∧ s'.on = true) ∧ r = .returned (.int .i64 e) ∧ PlantAt w' p F' s' (K + 65700) ∧ Turn F w w' ∧ (∀ b, F' b → F b ∨ w.heap.size ≤ b))
theorem build_dsk (p : Nat) (dev : Int) (W : World) : (Instr.build 60 #[(0, .pointer (some ⟨p, 0, none⟩)), (1, .int .i64 dev)]).run Tryd.prog W = .ok (.agg (dskV p dev)) W := by unfold dskV; kernel_rfl
theorem zero_dsk (w : World) : (zeroValue 60).run Tryd.prog w = .ok (.agg #[.pointer none, .int .i64 0]) w := by kernel_rfl
theorem dskV_one (p : Nat) (dev : Int) : ∀ v ∈ (dskV p dev).toList, v.oneCell' = true := fun v hv => by
  simp [dskV] at hv; rcases hv with rfl | rfl <;> rfl
def twoA (a b : Nat) : Array Value := #[.int .i64 (a : Int), .int .i64 (b : Int)]
theorem twoA_one (a b : Nat) : ∀ v ∈ (twoA a b).toList, v.oneCell' = true := fun v hv => by
  simp [twoA] at hv; rcases hv with rfl | rfl <;> rfl
theorem size_two : (Tryd.prog.info? 89).map (·.size) = some 2 := by kernel_rfl
theorem zero_two (w : World) : (zeroValue 89).run Tryd.prog w = .ok (.agg (twoA 0 0)) w := by kernel_rfl
theorem build_two2 (a b : Int) (W : World) : (Instr.build 89 #[(0, .int .i64 a), (1, .int .i64 b)]).run Tryd.prog W = .ok (.agg #[.int .i64 a, .int .i64 b]) W := by kernel_rfl
theorem build_rows (a b c d e f : Int) (w : World) : (Instr.buildSlice 90 3 #[(0, .agg #[.int .i64 a, .int .i64 b]), (1, .agg #[.int .i64 c, .int .i64 d]), (2, .agg #[.int .i64 e, .int .i64 f])]).run Tryd.prog w = .ok (.slice (some ⟨w.heap.size, 0, none⟩) 3 3) (w.alloc (.cells #[.int .i64 a, .int .i64 b, .int .i64 c, .int .i64 d, .int .i64 e, .int .i64 f] 89)) := by kernel_rfl
theorem build_hd1 (W : World) : (Instr.build 62 #[(1, .int .i64 1)]).run Tryd.prog W = .ok (.agg (hdA 0 1 0 false)) W := by kernel_rfl
theorem gx_buildAt1 {P : Program} {a : Act} {o : Oper} {t : TypeId} {x0 : Operand} {i : Nat} {u0 r : Value} {W : World} (ho : o.op = .build t #[(i, x0)]) (h0 : a.eval x0 = u0) (h : (Instr.build t #[(i, u0)]).run P W = .ok r W) : (execOp a.eval o).run P W = .ok (.value r) W := by
  unfold execOp
  simp only [ho, List.map_toArray, List.map_cons, List.map_nil, h0, h, Sem.run_bind, Sem.run_pure, Result.andThen_ok]
theorem gx_slice3 {P : Program} {a : Act} {o : Oper} {t : TypeId} {x y z : Operand} {u v q r : Value} {W W' : World} (ho : o.op = .buildSlice t 3 #[(0, x), (1, y), (2, z)]) (hx : a.eval x = u) (hy : a.eval y = v) (hz : a.eval z = q)
    (h : (Instr.buildSlice t 3 #[(0, u), (1, v), (2, q)]).run P W = .ok r W') : (execOp a.eval o).run P W = .ok (.value r) W' := by
  unfold execOp
  simp only [ho, List.map_toArray, List.map_cons, List.map_nil, hx, hy, hz, h, Sem.run_bind, Sem.run_pure, Result.andThen_ok]
end Go.Proofs.YtelipeoilcepbaaDoor
