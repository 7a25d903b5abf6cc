/-
  Index: the last pair taken out of a tree; a key taken out of a tree. No conditions.
-/
import Derived.Test.YtmlkdkbpbleilaaIxW
namespace Go.Proofs.Ytmlkdkbpbleilaa
open Go.RowKit
open Ix
set_option linter.unusedVariables false
set_option linter.unusedSimpArgs false
/-- what a call on a tree needs -/
structure Tree (w : World) (H : Hp) {d : Nat} (p : Nat) (t : Tr d) (F : List Nat) (m M lo hi : Nat) : Prop where
  hin : In w H
  tr : TrAt H p t F
  nd : Nd1 F
  nb : Nd m M lo hi t
theorem nd_kid {m M lo hi : Nat} {d : Nat} {t : Tr (d + 1)} (h : Nd m M lo hi t) {i : Nat} {c : Tr d} (hc : t.2[i]? = some c) : Nd m M m M c := h.2.2.2 c (List.mem_of_getElem? hc)
theorem kids_set {m M lo hi : Nat} {d : Nat} {t : Tr (d + 1)} (h : Nd m M lo hi t) {i : Nat} {c : Tr d} (hc : Nd m M (m - 1) M c) {ps : List Pr} : ∀ (j : Nat) (c' : Tr d), (nodeT ps (t.2.set i c)).2[j]? = some c' → Nd m M (m - 1) M c' := fun j c' hj => by
  have hj : (t.2.set i c)[j]? = some c' := hj
  by_cases e : i = j
  · subst e
    rw [List.getElem?_set] at hj
    simp at hj
    obtain ⟨_, rfl⟩ := hj
    exact hc
  · rw [List.getElem?_set_ne e] at hj
    have h1 := nd_kid h hj
    exact h1.mono (by have := h1.lo; omega) h1.hi
theorem nd_mid {n : Nat} {F1 Gx F2 : List Nat} (h : Nd1 (n :: (F1 ++ (Gx ++ F2)))) : Nd1 Gx := fun a => by
  have := h a
  simp only [List.count_append, List.count_cons] at this
  omega
theorem not_leaf {d : Nat} {t : Tr (d + 1)} {H : Hp} {p m M lo hi : Nat} {F : List Nat} {ks : List Nat} (ht : TrAt H p t F) (hn : Nd m M lo hi t) (hk : Is H p t.1 ks) : decide (ks = []) = false := by
  obtain ⟨ks', F', h1, h2, _⟩ := ht
  obtain ⟨_, e⟩ := hk.inj h1
  subst e
  have h3 := h2.len
  have h4 := hn.2.2.1
  cases ks with
  | nil => simp at h3; omega
  | cons _ _ => rfl
set_option maxRecDepth 20000 in
set_option maxHeartbeats 4000000 in
theorem dropLast_leaf {t : Tr 0} {w : World} {H : Hp} {p m M lo hi : Nat} {F : List Nat} (h : Tree w H p t F m M lo hi) (h1 : 1 ≤ lo) (h8 : hi < 800) :
    Calls Try.prog 46 #[.pointer (some ⟨p, 0, none⟩), .int .i64 (m : Int)] w fun e w' => e = .returned (.agg (encP (tlast m t).1).toArray) ∧ After w H p F (tlast m t).2 w' := by
  obtain ⟨his, rfl⟩ := h.tr
  have HIN := Lib.hid h.hin
  have n1 := h.nb.lo
  have n2 := h.nb.hi
  have n1 : lo ≤ t.1.length := n1
  have n2 : t.1.length ≤ hi := n2
  have HIS := Lib.hid his
  obtain ⟨q, hq⟩ : ∃ q, t.1[t.1.length - 1]? = some q := ⟨_, List.getElem?_eq_getElem (show t.1.length - 1 < t.1.length by omega)⟩
  have HQ1 := Lib.hid (show (tlast m t).1 = q from by show lastP t.1 = q; unfold lastP; rw [hq]; rfl)
  obtain ⟨z, hz⟩ : ∃ z, z + 1 = t.1.length := ⟨t.1.length - 1, by omega⟩
  have HZ := Lib.hid hz
  have HQ := Lib.hid (show t.1[z]? = some q from by rw [show z = t.1.length - 1 from by omega]; exact hq)
  obtain ⟨n, hn⟩ : ∃ n, n = t.1.length := ⟨_, rfl⟩
  have HN := Lib.hid hn
  have HH := Lib.hid (show t.1.length ≤ 100000 from by omega)
  have y1 : (n : Int) ≤ (z : Int) + 1 := by omega
  have y2 : (z : Int) + 1 ≤ (n : Int) := by omega
  have y3 : (n : Int) ≤ 800 := by omega
  obtain ⟨vp, vk, hp⟩ := his
  obtain ⟨A, c, e, _, _, _, _⟩ := (show NodeAt w p vp vk t.1 [] from h.hin.at_ hp).prs.form
  replace e := e.trans (show _ = Value.slice A n c from by rw [List.length_map, hn])
  subst e
  have HP := Lib.hid hp
  clear hq hz hn n1 n2 h h1 h8 hp
  have hb0 := Blk.new w 65 #[.string ⟨#[]⟩, .int .i64 0]
  have hu0 := (Turn.refl nowhere w).alloc (.cells #[.string ⟨#[]⟩, .int .i64 0] 65)
  go_enter Try.func46, Try.ntmps46
  go_upto_region 1 with fail
  obtain ⟨b0, hg0⟩ : ∃ g, g = w.heap.size := ⟨_, rfl⟩
  rw [← hg0] at hb0 ⊢
  generalize w.alloc (.cells #[.string ⟨#[]⟩, .int .i64 0] 65) = w1 at *
  have HG0 := Lib.hid (show w.heap.size ≤ b0 by omega)
  have HT1 := Lib.hid hu0
  have HA0 := Lib.hid (Aux.new HIN.out HG0.out hb0)
  have HI1 := Lib.hid (HIN.out.still hu0)
  clear hb0 hu0 hg0
  refine wp_region_lit ?_
  refine wpList_run (v := .pointer (some ⟨p, 0, none⟩)) (wanted_none rfl) (exec_move rfl rfl) ?_
  simp only [Act.put, List.setIfInBounds_toArray, List.set_cons_zero, List.set_cons_succ]
  refine wpList_op rfl fun K9 HK9 => ?_
  go_wp2_with fail
  refine (lowest_walk (HI1.out.at_ HP.out)).mono ?_
  rintro e w2 ⟨rfl, hw2⟩
  refine HK9.out _ _ ?_
  clear HK9
  try simp only [Act.put, List.setIfInBounds_toArray, List.set_cons_zero, List.set_cons_succ]
  subst hw2
  go_upto_region 2 with fail
  refine wp_region_lit ?_
  refine wpList_run (v := .pointer (some ⟨p, 0, none⟩)) (wanted_none rfl) (exec_move rfl rfl) ?_
  simp only [Act.put, List.setIfInBounds_toArray, List.set_cons_zero, List.set_cons_succ]
  refine wpList_run (v := .pointer (some ⟨p, 0, none⟩)) (wanted_none rfl) (exec_move rfl rfl) ?_
  simp only [Act.put, List.setIfInBounds_toArray, List.set_cons_zero, List.set_cons_succ]
  refine wpList_run (v := .pointer (some ⟨p, 0, none⟩)) (wanted_none rfl) (exec_nil rfl rfl) ?_
  simp only [Act.put, List.setIfInBounds_toArray, List.set_cons_zero, List.set_cons_succ]
  refine wpList_run (v := .pointer (some ⟨p, 0, none⟩)) (wanted_none rfl) (exec_field (off := 0) (d := 0) rfl rfl (by kernel_rfl)) ?_
  simp only [Act.put, List.setIfInBounds_toArray, List.set_cons_zero, List.set_cons_succ]
  refine wpList_run (v := .slice A n c) (wanted_none rfl) (exec_load1 rfl rfl (by kernel_rfl) ((HI1.out.at_ HP.out).blk.cell 0)) ?_
  simp only [Act.put, List.setIfInBounds_toArray, List.set_cons_zero, List.set_cons_succ]
  refine wpList_run (v := .int .i64 (n : Int)) (wanted_none rfl) (gx_len rfl rfl Try.underlying59) ?_
  simp only [Act.put, List.setIfInBounds_toArray, List.set_cons_zero, List.set_cons_succ]
  refine wpList_run (v := .int .i64 (z : Int)) (wanted_none rfl) (ix_sub rfl rfl rfl (by omega) (by omega)) ?_
  simp only [Act.put, List.setIfInBounds_toArray, List.set_cons_zero, List.set_cons_succ]
  refine wpList_op rfl fun K9 HK9 => ?_
  go_wp2_with fail
  refine (takePair_walk HI1.out HIS.out HQ.out HH.out).mono ?_
  rintro e w3 ⟨rfl, H3, hto, his3, hs3⟩
  refine HK9.out _ _ ?_
  clear HK9
  try simp only [Act.put, List.setIfInBounds_toArray, List.set_cons_zero, List.set_cons_succ]
  have HX := Lib.hid (after_leaf hto (by rw [last_drop HN.out (by rw [HN.out]; exact HZ.out)] at his3; exact his3) hs3)
  have HA3 := Lib.hid (HA0.out.to hto)
  clear hto his3 hs3
  refine wpList_store_row rfl 65 (.tmp 4) (.tmp 16) rfl (encP q).toArray HA3.out.1 rfl rfl rfl (by rw [size_pair]; rfl) (fun v hv => encP_one q v (by simpa using hv)) ?_
  intro w5 hb5 ht5
  simp only [Act.put, List.setIfInBounds_toArray, List.set_cons_zero, List.set_cons_succ]
  have HE := Lib.hid hb5
  have HT5 := Lib.hid ht5
  clear hb5 ht5
  go_wp2_with fail
  refine bodyPost_ret (v := .agg (encP q).toArray) (results_cell_row rfl _ _ b0 65 _ (0, 0) _ rfl HE.out Try.underlying65 rfl size_pair) rfl ?_
  rw [HQ1.out]
  refine ⟨rfl, AfterX.a (H' := H3) (F' := [p]) ?_⟩
  have hz2 : t.1.length - 1 = z := by have := HZ.out; omega
  show AfterX (d := 0) w H p [p] (t.1.take (t.1.length - 1), ()) w5 H3 [p]
  rw [hz2]
  exact (AfterX.pre HIN.out HT1.out HX.out).aux HG0.out HA3.out HT5.out
set_option maxRecDepth 20000 in
set_option maxHeartbeats 4000000 in
theorem dropLast_walk {m M : Nat} (hm : m = M / 2) (h2 : 2 ≤ M) (hM : M < 700) : ∀ {d : Nat} {t : Tr d} {w : World} {H : Hp} {p lo hi : Nat} {F : List Nat}, Tree w H p t F m M lo hi → 1 ≤ lo → hi < 700 →
    Calls Try.prog 46 #[.pointer (some ⟨p, 0, none⟩), .int .i64 (m : Int)] w fun e w' => e = .returned (.agg (encP (tlast m t).1).toArray) ∧ After w H p F (tlast m t).2 w' := by
  intro d
  induction d with
  | zero => intro t w H p lo hi F h h1 h8; exact dropLast_leaf h h1 (by omega)
  | succ d ih =>
    intro t w H p lo hi F h h1 h8
    have HIN := Lib.hid h.hin
    have hlen := h.nb.2.2.1
    have n1 : lo ≤ t.1.length := h.nb.lo
    have n2 : t.1.length ≤ hi := h.nb.hi
    obtain ⟨i, hi0⟩ : ∃ i, i = t.2.length - 1 := ⟨_, rfl⟩
    obtain ⟨c, hc⟩ : ∃ c, t.2[i]? = some c := ⟨_, List.getElem?_eq_getElem (show i < t.2.length by omega)⟩
    obtain ⟨ks1, x, ks2, F1, Gx, F2, q1, q2, q3, q4, q5, rfl⟩ := one_kid h.tr hc
    have hlt := fun q hq => TrAt.lt h.hin h.tr q hq
    have nc := nd_kid h.nb hc
    have HTC := Lib.hid (show ∀ w1, Turn nowhere w w1 → Tree w1 H x c Gx m M m M from fun w1 ht => ⟨h.hin.still ht, q4, nd_mid h.nd, nc⟩)
    obtain ⟨tl, tr⟩ := tlast_ok hm h2 nc (by omega)
    have HTL := Lib.hid (show (tlast m t).1 = (tlast m c).1 ∧ (tlast m t).2 = mend m i (nodeT t.1 (t.2.set i (tlast m c).2)) from by
      constructor
      · show (match t.2[t.2.length - 1]? with | none => (([], 0), t) | some c => ((tlast m c).1, mend m (t.2.length - 1) (nodeT t.1 (t.2.set (t.2.length - 1) (tlast m c).2)))).1 = _
        rw [← hi0, hc]
      · show (match t.2[t.2.length - 1]? with | none => (([], 0), t) | some c => ((tlast m c).1, mend m (t.2.length - 1) (nodeT t.1 (t.2.set (t.2.length - 1) (tlast m c).2)))).2 = _
        rw [← hi0, hc])
    have HKD := Lib.hid (fun (w1 w2 : World) (H' : Hp) (G' : List Nat) (ht : Turn nowhere w w1) (ha : AfterX w1 H x Gx (tlast m c).2 w2 H' G') => after_kid (t := t) (i := i) (h.hin.still ht) h.nd (fun q hq => Nat.lt_of_lt_of_le (hlt q hq) ht.size) q1 q3 q5 (by omega) ha)
    have HMN := Lib.hid (fun (w2 : World) (H' : Hp) (F' : List Nat) (w1 : World) (ha : AfterX w1 H p (p :: (F1 ++ (Gx ++ F2))) (nodeT t.1 (t.2.set i (tlast m c).2)) w2 H' F') => (show Mn (nodeT t.1 (t.2.set i (tlast m c).2)) w2 H' p m M F' from ⟨ha.to.in_, ha.tr, ha.nd, by show (t.2.set _ _).length = _; rw [List.length_set]; exact hlen, by show 1 ≤ t.1.length; omega, by show t.1.length < 800; omega, kids_set h.nb tr, by omega⟩))
    obtain ⟨ks, hks⟩ : ∃ ks, ks = ks1 ++ x :: ks2 := ⟨_, rfl⟩
    rw [← hks] at q1
    have HL := Lib.hid (not_leaf h.tr h.nb q1)
    have hkl : ks.length = t.2.length := by
      obtain ⟨ks', F', g1, g2, _⟩ := h.tr
      obtain ⟨_, e⟩ := q1.inj g1
      rw [e, g2.len]
    have HKX := Lib.hid (show ks[i]? = some x from by rw [hks]; exact ks_at1 q2)
    obtain ⟨vp, vk, hp⟩ := q1
    obtain ⟨b, cc, e, _, _⟩ := (show NodeAt w p vp vk t.1 ks from h.hin.at_ hp).kds.some_ (by rw [List.length_map]; omega)
    obtain ⟨n, hn⟩ : ∃ n, n = ks.length := ⟨_, rfl⟩
    replace e := e.trans (show _ = Value.slice (some ⟨b, 0, none⟩) n cc from by rw [List.length_map, hn])
    subst e
    have HP := Lib.hid hp
    have HIN2 := Lib.hid (show i < n from by omega)
    have HIL := Lib.hid (show i < (nodeT t.1 (t.2.set i (tlast m c).2)).2.length from by show i < (t.2.set _ _).length; rw [List.length_set]; omega)
    have HM8 := Lib.hid (show m < 800 from by omega)
    have HIH := Lib.hid (fun (w1 : World) (ht : Turn nowhere w w1) => ih (HTC.out w1 ht) (by omega) (by omega))
    have y1 : (n : Int) ≤ (i : Int) + 1 := by omega
    have y2 : (i : Int) + 1 ≤ (n : Int) := by omega
    have y3 : (n : Int) ≤ 800 := by omega
    have HMQ := Lib.hid hm
    clear hm
    clear hks hkl hp hn q2 q3 q4 q5 hlt nc tl tr hi0 hc h h1 h8 hlen n1 n2 ih
    have hb0 := Blk.new w 65 #[.string ⟨#[]⟩, .int .i64 0]
    have hu0 := (Turn.refl nowhere w).alloc (.cells #[.string ⟨#[]⟩, .int .i64 0] 65)
    go_enter Try.func46, Try.ntmps46
    go_upto_region 1 with fail
    obtain ⟨b0, hg0⟩ : ∃ g, g = w.heap.size := ⟨_, rfl⟩
    rw [← hg0] at hb0 ⊢
    generalize w.alloc (.cells #[.string ⟨#[]⟩, .int .i64 0] 65) = w1 at *
    have HG0 := Lib.hid (show w.heap.size ≤ b0 by omega)
    have HT1 := Lib.hid hu0
    have HA0 := Lib.hid (Aux.new HIN.out HG0.out hb0)
    have HI1 := Lib.hid (HIN.out.still hu0)
    clear hb0 hu0 hg0
    refine wp_region_lit ?_
    refine wpList_run (v := .pointer (some ⟨p, 0, none⟩)) (wanted_none rfl) (exec_move rfl rfl) ?_
    simp only [Act.put, List.setIfInBounds_toArray, List.set_cons_zero, List.set_cons_succ]
    have hw := lowest_walk (ks := ks) (HI1.out.at_ HP.out)
    rw [HL.out] at hw
    refine wpList_op rfl fun K9 HK9 => ?_
    go_wp2_with fail
    refine (hw).mono ?_
    rintro e w2 ⟨rfl, hw2⟩
    refine HK9.out _ _ ?_
    clear HK9
    try simp only [Act.put, List.setIfInBounds_toArray, List.set_cons_zero, List.set_cons_succ]
    subst hw2
    clear hw
    go_upto_region 3 with fail
    refine wp_region_lit ?_
    refine wpList_run (v := .pointer (some ⟨p, 0, none⟩)) (wanted_none rfl) (exec_move rfl rfl) ?_
    simp only [Act.put, List.setIfInBounds_toArray, List.set_cons_zero, List.set_cons_succ]
    refine wpList_run (v := .pointer (some ⟨p, 0, none⟩)) (wanted_none rfl) (exec_nil rfl rfl) ?_
    simp only [Act.put, List.setIfInBounds_toArray, List.set_cons_zero, List.set_cons_succ]
    refine wpList_run (v := .pointer (some ⟨p, 1, none⟩)) (wanted_none rfl) (exec_field (off := 0) (d := 1) rfl rfl (by kernel_rfl)) ?_
    simp only [Act.put, List.setIfInBounds_toArray, List.set_cons_zero, List.set_cons_succ]
    refine wpList_run (v := .slice (some ⟨b, 0, none⟩) n cc) (wanted_none rfl) (exec_load1 rfl rfl (by kernel_rfl) ((HI1.out.at_ HP.out).blk.cell 1)) ?_
    simp only [Act.put, List.setIfInBounds_toArray, List.set_cons_zero, List.set_cons_succ]
    refine wpList_run (v := .int .i64 (n : Int)) (wanted_none rfl) (gx_len rfl rfl Try.underlying60) ?_
    simp only [Act.put, List.setIfInBounds_toArray, List.set_cons_zero, List.set_cons_succ]
    refine wpList_run (v := .int .i64 (i : Int)) (wanted_none rfl) (ix_sub rfl rfl rfl (by omega) (by omega)) ?_
    simp only [Act.put, List.setIfInBounds_toArray, List.set_cons_zero, List.set_cons_succ]
    refine wpList_run (v := .int .i64 (i : Int)) (wanted_none rfl) (gx_assign rfl rfl) ?_
    simp only [Act.put, List.setIfInBounds_toArray, List.set_cons_zero, List.set_cons_succ]
    go_upto_region 4 with fail
    refine wp_region_lit ?_
    refine wpList_run (v := .pointer (some ⟨p, 0, none⟩)) (wanted_none rfl) (exec_move rfl rfl) ?_
    simp only [Act.put, List.setIfInBounds_toArray, List.set_cons_zero, List.set_cons_succ]
    refine wpList_run (v := .pointer (some ⟨p, 0, none⟩)) (wanted_none rfl) (exec_nil rfl rfl) ?_
    simp only [Act.put, List.setIfInBounds_toArray, List.set_cons_zero, List.set_cons_succ]
    refine wpList_run (v := .pointer (some ⟨p, 1, none⟩)) (wanted_none rfl) (exec_field (off := 0) (d := 1) rfl rfl (by kernel_rfl)) ?_
    simp only [Act.put, List.setIfInBounds_toArray, List.set_cons_zero, List.set_cons_succ]
    refine wpList_run (v := .slice (some ⟨b, 0, none⟩) n cc) (wanted_none rfl) (exec_load1 rfl rfl (by kernel_rfl) ((HI1.out.at_ HP.out).blk.cell 1)) ?_
    simp only [Act.put, List.setIfInBounds_toArray, List.set_cons_zero, List.set_cons_succ]
    refine wpList_run (v := .int .i64 (i : Int)) (wanted_none rfl) (exec_move rfl rfl) ?_
    simp only [Act.put, List.setIfInBounds_toArray, List.set_cons_zero, List.set_cons_succ]
    refine wpList_run (v := .pointer (some ⟨b, 0 + i * 1, none⟩)) (wanted_none rfl) (gx_iaddr (i := i) (sz := 1) rfl rfl rfl Try.underlying60 size_ptr HIN2.out rfl) ?_
    simp only [Act.put, List.setIfInBounds_toArray, List.set_cons_zero, List.set_cons_succ]
    refine wpList_run (v := .pointer (some ⟨x, 0, none⟩)) (wanted_none rfl) (exec_load1 rfl rfl (by kernel_rfl) (kid_cell (HI1.out.at_ HP.out) HKX.out)) ?_
    simp only [Act.put, List.setIfInBounds_toArray, List.set_cons_zero, List.set_cons_succ]
    refine wpList_run (v := .int .i64 (m : Int)) (wanted_none rfl) (exec_move rfl rfl) ?_
    simp only [Act.put, List.setIfInBounds_toArray, List.set_cons_zero, List.set_cons_succ]
    refine wpList_op rfl fun K9 HK9 => ?_
    go_wp2_with fail
    refine (HIH.out _ HT1.out).mono ?_
    rintro e w3 ⟨rfl, haf⟩
    refine HK9.out _ _ ?_
    clear HK9
    try simp only [Act.put, List.setIfInBounds_toArray, List.set_cons_zero, List.set_cons_succ]
    obtain ⟨H3, G3, hx3⟩ := haf.x
    have HX3 := Lib.hid (HKD.out _ _ _ _ HT1.out hx3)
    have HA3 := Lib.hid (HA0.out.to hx3.to)
    clear haf hx3
    refine wpList_new 65 (.tmp 6) (.tmp 31) (encP (tlast m c).1).toArray rfl rfl (zero_pair _) rfl rfl rfl rfl rfl rfl (by rw [size_pair]; rfl) (fun v hv => encP_one (tlast m c).1 v (by simpa using hv)) ?_
    intro w4 g6 hge hb6 ht4
    simp only [Act.put, List.setIfInBounds_toArray, List.set_cons_zero, List.set_cons_succ]
    have HA6 := Lib.hid (Aux.new HX3.out.to.in_ hge hb6)
    have HX4 := Lib.hid (HX3.out.post ht4)
    have HA4 := Lib.hid (HA3.out.still ht4)
    have HMW := Lib.hid (mend_walk (HMN.out _ _ _ _ HX4.out) HIL.out HM8.out)
    clear hge hb6 ht4
    go_upto_region 5 with fail
    refine wp_region_lit ?_
    refine wpList_run (v := .pointer (some ⟨p, 0, none⟩)) (wanted_none rfl) (exec_move rfl rfl) ?_
    simp only [Act.put, List.setIfInBounds_toArray, List.set_cons_zero, List.set_cons_succ]
    refine wpList_run (v := .int .i64 (i : Int)) (wanted_none rfl) (exec_move rfl rfl) ?_
    simp only [Act.put, List.setIfInBounds_toArray, List.set_cons_zero, List.set_cons_succ]
    refine wpList_run (v := .int .i64 (m : Int)) (wanted_none rfl) (exec_move rfl rfl) ?_
    simp only [Act.put, List.setIfInBounds_toArray, List.set_cons_zero, List.set_cons_succ]
    refine wpList_op rfl fun K9 HK9 => ?_
    go_wp2_with fail
    refine (HMW.out).mono ?_
    rintro e w5 ⟨rfl, haf⟩
    refine HK9.out _ _ ?_
    clear HK9
    try simp only [Act.put, List.setIfInBounds_toArray, List.set_cons_zero, List.set_cons_succ]
    obtain ⟨H5, F5, hx5⟩ := haf.x
    have HX5 := Lib.hid (HX4.out.trans hx5)
    have HA65 := Lib.hid (HA6.out.to hx5.to)
    have HA5 := Lib.hid (HA4.out.to hx5.to)
    clear haf hx5
    go_upto_region 6 with fail
    refine wp_region_lit ?_
    refine wpList_run (v := .agg (encP (tlast m c).1).toArray) (wanted_none rfl) (gx_loads rfl rfl (blk_range HA65.out.1) Try.underlying65 rfl (by rw [size_pair]; rfl)) ?_
    simp only [Act.put, List.setIfInBounds_toArray, List.set_cons_zero, List.set_cons_succ]
    refine wpList_store_row rfl 65 (.tmp 4) (.tmp 36) rfl (encP (tlast m c).1).toArray HA5.out.1 rfl rfl rfl (by rw [size_pair]; rfl) (fun v hv => encP_one (tlast m c).1 v (by simpa using hv)) ?_
    intro w6 hb7 ht7
    simp only [Act.put, List.setIfInBounds_toArray, List.set_cons_zero, List.set_cons_succ]
    have HE := Lib.hid hb7
    have HT7 := Lib.hid ht7
    clear hb7 ht7
    go_wp2_with fail
    refine bodyPost_ret (v := .agg (encP (tlast m c).1).toArray) (results_cell_row rfl _ _ b0 65 _ (0, 0) _ rfl HE.out Try.underlying65 rfl size_pair) rfl ?_
    rw [HTL.out.1, HTL.out.2]
    exact ⟨rfl, ((AfterX.pre HIN.out HT1.out HX5.out).aux HG0.out HA5.out HT7.out).a⟩
end Go.Proofs.Ytmlkdkbpbleilaa
