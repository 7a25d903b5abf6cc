/-
  Index: a key taken out of a tree: the walk. No conditions.
-/
import Derived.Test.YtmlkdkbpbleilaaIxX
namespace Go.Proofs.Ytmlkdkbpbleilaa
open Go.RowKit
open Ix
set_option linter.unusedVariables false
set_option linter.unusedSimpArgs false
def retV (o : Option Int) : Value := .tuple #[.int .i64 (o.getD 0), .bool o.isSome]
theorem inter_sub : ∀ {L : List (List Pr)} {ps : List Pr}, L.length = ps.length + 1 → ps.Sublist (inter L ps)
  | [], _, h => by simp at h
  | [a], [], _ => List.nil_sublist _
  | a :: b :: L, p :: ps, h => by
    show (p :: ps).Sublist (a ++ p :: inter (b :: L) ps)
    exact ((inter_sub (L := b :: L) (ps := ps) (by simpa using h)).cons_cons p).trans (List.sublist_append_right _ _)
  | [_], _ :: _, h => by simp at h
  | _ :: _ :: _, [], h => by simp at h
theorem srt_top {m M lo hi : Nat} : ∀ {d : Nat} {t : Tr d}, Nd m M lo hi t → Srt (flat t) → Srt t.ps
  | 0, t, _, h => h
  | d + 1, t, hn, h => by
    refine List.Pairwise.sublist (inter_sub ?_) h
    rw [List.length_map]
    exact hn.2.2.1
theorem srt_kid {m M lo hi : Nat} {d : Nat} {t : Tr (d + 1)} {k : Key} (hn : Nd m M lo hi t) (h : Srt (flat t)) {c : Tr d} (hc : t.2[fnd k t.1]? = some c) : Srt (flat c) := by
  have h : Srt (inter (t.2.map flat) t.1) := h
  obtain ⟨A, b, B, _, _, _, hb, _, hsb, _⟩ := at_fnd k (by rw [List.length_map]; exact hn.2.2.1) h
  rw [List.getElem?_map, hc] at hb
  obtain rfl : flat c = b := by simpa using hb
  exact hsb
theorem hit_yes {k : Key} {l : List Pr} (h : hit k l = true) : ∃ p, l[fnd k l]? = some p ∧ p.1 = k := by
  have h : (l[fnd k l]?).map (·.1) = some k := of_decide_eq_true h
  exact Option.map_eq_some_iff.1 h
theorem hit_no {k : Key} {l : List Pr} (h : hit k l = false) : ¬ (l[fnd k l]?).map (·.1) = some k := of_decide_eq_false h
theorem tget_yes {k : Key} {d : Nat} {t : Tr (d + 1)} {c : Tr d} {p : Pr} (hp : t.1[fnd k t.1]? = some p) (hk : p.1 = k) (hc : t.2[fnd k t.1]? = some c) : tget k t = some p.2 := by
  unfold tget
  rw [hp, hc]
  exact if_pos hk
theorem tget_no {k : Key} {d : Nat} {t : Tr (d + 1)} {c : Tr d} (hn : ¬ (t.1[fnd k t.1]?).map (·.1) = some k) (hc : t.2[fnd k t.1]? = some c) : tget k t = tget k c := by
  conv => lhs; unfold tget
  rw [hc]
  cases hp : t.1[fnd k t.1]? with
  | none => rfl
  | some p => exact if_neg fun e => hn (by rw [hp, ← e]; rfl)
theorem tget_leaf {k : Key} {t : Tr 0} : tget k t = if hit k t.1 then (t.1[fnd k t.1]?).map (·.2) else none := by
  show (match t.1[fnd k t.1]? with | some p => if p.1 = k then some p.2 else none | none => none) = _
  cases hp : t.1[fnd k t.1]? with
  | none =>
    unfold hit
    rw [hp]
    simp
  | some p =>
    unfold hit
    rw [hp]
    by_cases e : p.1 = k
    · simp [e]
    · simp [e]
theorem gx_fieldP {a : Act} {o : Oper} {W : World} {x : Operand} {p : Pr} (ho : o.op = .field 65 x 1) (hx : a.eval x = .agg (encP p).toArray) : (execOp a.eval o).run Try.prog W = .ok (.value (.int .i64 p.2)) W := by
  have h : (Instr.field 65 (.agg (encP p).toArray) 1).run Try.prog W = .ok (.int .i64 p.2) W := by kernel_rfl
  unfold execOp
  simp only [ho, hx, h, Sem.run_bind, Sem.run_pure, Result.andThen_ok]
set_option maxRecDepth 20000 in
set_option maxHeartbeats 4000000 in
theorem drop_leaf {t : Tr 0} {w : World} {H : Hp} {p m M lo hi : Nat} {F : List Nat} {k : Key} (h : Tree w H p t F m M lo hi) (hs : Srt (flat t)) (h8 : hi < 700) :
    Calls Try.prog 29 #[.pointer (some ⟨p, 0, none⟩), strV k, .int .i64 (m : Int)] w fun e w' => e = .returned (retV (tget k t)) ∧ After w H p F (tdrop k m t) w' := by
  obtain ⟨his, rfl⟩ := h.tr
  have HT := Lib.hid h
  have HIS := Lib.hid his
  have HS := Lib.hid (show Srt t.1 from hs)
  have HIN := Lib.hid h.hin
  have n2 : t.1.length ≤ hi := h.nb.hi
  have HL := Lib.hid (show t.1.length ≤ 100000 by omega)
  obtain ⟨vp, vk, hp⟩ := his
  have HP := Lib.hid hp
  have HG := Lib.hid (tget_leaf (k := k) (t := t))
  obtain ⟨i, hi0⟩ : ∃ i, i = fnd k t.1 := ⟨_, rfl⟩
  have HF := Lib.hid (show ∀ w1, Turn nowhere w w1 → Calls Try.prog 31 #[.pointer (some ⟨p, 0, none⟩), strV k] w1 fun e w' => e = .returned (.tuple #[.int .i64 (i : Int), .bool (hit k t.1)]) ∧ Turn nowhere w1 w' from fun w1 ht => by
    rw [hi0]
    exact find_walk ((h.hin.still ht).at_ hp) hs (by omega))
  have HI := Lib.hid hi0
  clear h hs h8 n2 hp hi0
  go_enter Try.func29, Try.ntmps29
  go_upto_region 1 with fail
  refine wp_region_lit ?_
  refine wpList_run (v := .pointer (some ⟨p, 0, none⟩)) (wanted_none rfl) (exec_move rfl rfl) ?_
  simp only [Act.put, List.setIfInBounds_toArray, List.set_cons_zero, List.set_cons_succ]
  refine wpList_run (v := strV k) (wanted_none rfl) (exec_move rfl rfl) ?_
  simp only [Act.put, List.setIfInBounds_toArray, List.set_cons_zero, List.set_cons_succ]
  refine wpList_op rfl fun K9 HK9 => ?_
  go_wp2_with fail
  refine (HF.out w (Turn.refl _ _)).mono ?_
  rintro e w1 ⟨rfl, ht1⟩
  refine HK9.out _ _ ?_
  clear HK9
  try simp only [Act.put, List.setIfInBounds_toArray, List.set_cons_zero, List.set_cons_succ]
  refine wpList_run (v := .tuple #[.int .i64 (i : Int), .bool (hit k t.1)]) (wanted_none rfl) (exec_move rfl rfl) ?_
  simp only [Act.put, List.setIfInBounds_toArray, List.set_cons_zero, List.set_cons_succ]
  refine wpList_run (v := .int .i64 (i : Int)) (wanted_none rfl) (ix_extract rfl rfl rfl) ?_
  simp only [Act.put, List.setIfInBounds_toArray, List.set_cons_zero, List.set_cons_succ]
  refine wpList_run (v := .bool (hit k t.1)) (wanted_none rfl) (ix_extract rfl rfl rfl) ?_
  simp only [Act.put, List.setIfInBounds_toArray, List.set_cons_zero, List.set_cons_succ]
  refine wpList_run (v := .int .i64 (i : Int)) (wanted_none rfl) (gx_assign rfl rfl) ?_
  simp only [Act.put, List.setIfInBounds_toArray, List.set_cons_zero, List.set_cons_succ]
  refine wpList_run (v := .bool (hit k t.1)) (wanted_none rfl) (gx_assign rfl rfl) ?_
  simp only [Act.put, List.setIfInBounds_toArray, List.set_cons_zero, List.set_cons_succ]
  have HT1 := Lib.hid ht1
  have HI1 := Lib.hid (HIN.out.still ht1)
  clear ht1
  go_upto_region 2 with fail
  refine wp_region_lit ?_
  refine wpList_run (v := .pointer (some ⟨p, 0, none⟩)) (wanted_none rfl) (exec_move rfl rfl) ?_
  simp only [Act.put, List.setIfInBounds_toArray, List.set_cons_zero, List.set_cons_succ]
  refine wpList_op rfl fun K9 HK9 => ?_
  go_wp2_with fail
  refine (lowest_walk (ks := []) (HI1.out.at_ HP.out)).mono ?_
  rintro e w2 ⟨rfl, hw2⟩
  refine HK9.out _ _ ?_
  clear HK9
  try simp only [Act.put, List.setIfInBounds_toArray, List.set_cons_zero, List.set_cons_succ]
  subst hw2
  cases hh : hit k t.1 with
  | false =>
    have HE := Lib.hid (show tget k t = none from by rw [HG.out, hh]; rfl)
    have HD := Lib.hid (show tdrop k m t = t from by
      show ((if (t.1[fnd k t.1]?).map (·.1) = some k then t.1.take (fnd k t.1) ++ t.1.drop (fnd k t.1 + 1) else t.1, ()) : List Pr × Unit) = t
      rw [if_neg (hit_no hh)]
      rfl)
    go_upto_region 3 with fail
    refine wp_region_lit ?_
    refine wpList_run (v := .bool (false)) (wanted_none rfl) (exec_move rfl rfl) ?_
    simp only [Act.put, List.setIfInBounds_toArray, List.set_cons_zero, List.set_cons_succ]
    refine wpList_run (v := .bool true) (wanted_none rfl) (gx_not rfl rfl rfl) ?_
    simp only [Act.put, List.setIfInBounds_toArray, List.set_cons_zero, List.set_cons_succ]
    go_wp2_with fail
    go_ret2
    rw [HE.out, HD.out]
    exact ⟨rfl, (AfterX.pre HIN.out HT1.out (AfterX.refl HI1.out HT.out.tr HT.out.nd)).a⟩
  | true =>
    obtain ⟨q, hq, hqk⟩ := hit_yes hh
    have HQ := Lib.hid (show t.1[i]? = some q from by rw [HI.out]; exact hq)
    have HE := Lib.hid (show tget k t = some q.2 from by rw [HG.out, hh, hq]; rfl)
    have HD := Lib.hid (show tdrop k m t = (t.1.take i ++ t.1.drop (i + 1), ()) from by
      show ((if (t.1[fnd k t.1]?).map (·.1) = some k then t.1.take (fnd k t.1) ++ t.1.drop (fnd k t.1 + 1) else t.1, ()) : List Pr × Unit) = _
      rw [if_pos (by rw [hq, ← hqk]; rfl), HI.out])
    clear hq hqk
    go_upto_region 3 with fail
    refine wp_region_lit ?_
    refine wpList_run (v := .bool (true)) (wanted_none rfl) (exec_move rfl rfl) ?_
    simp only [Act.put, List.setIfInBounds_toArray, List.set_cons_zero, List.set_cons_succ]
    refine wpList_run (v := .bool false) (wanted_none rfl) (gx_not rfl rfl rfl) ?_
    simp only [Act.put, List.setIfInBounds_toArray, List.set_cons_zero, List.set_cons_succ]
    go_upto_region 5 with fail
    refine wp_region_lit ?_
    refine wpList_run (v := .pointer (some ⟨p, 0, none⟩)) (wanted_none rfl) (exec_move rfl rfl) ?_
    simp only [Act.put, List.setIfInBounds_toArray, List.set_cons_zero, List.set_cons_succ]
    refine wpList_run (v := .int .i64 (i : Int)) (wanted_none rfl) (exec_move rfl rfl) ?_
    simp only [Act.put, List.setIfInBounds_toArray, List.set_cons_zero, List.set_cons_succ]
    refine wpList_op rfl fun K9 HK9 => ?_
    go_wp2_with fail
    refine (takePair_walk HI1.out HIS.out HQ.out HL.out).mono ?_
    rintro e w3 ⟨rfl, H3, hto, his3, hs3⟩
    refine HK9.out _ _ ?_
    clear HK9
    try simp only [Act.put, List.setIfInBounds_toArray, List.set_cons_zero, List.set_cons_succ]
    have HX := Lib.hid (AfterX.pre HIN.out HT1.out (after_leaf hto his3 hs3))
    clear hto his3 hs3
    refine wpList_run (v := .int .i64 q.2) (wanted_none rfl) (gx_fieldP rfl rfl) ?_
    simp only [Act.put, List.setIfInBounds_toArray, List.set_cons_zero, List.set_cons_succ]
    refine wpList_run (v := .int .i64 q.2) (wanted_none rfl) (gx_assign rfl rfl) ?_
    simp only [Act.put, List.setIfInBounds_toArray, List.set_cons_zero, List.set_cons_succ]
    refine wpList_run (v := .bool true) (wanted_none rfl) (gx_assign rfl rfl) ?_
    simp only [Act.put, List.setIfInBounds_toArray, List.set_cons_zero, List.set_cons_succ]
    go_wp2_with fail
    go_ret2
    rw [HE.out, HD.out]
    exact ⟨rfl, HX.out.a⟩
set_option maxRecDepth 20000 in
set_option maxHeartbeats 4000000 in
theorem drop_walk {m M : Nat} {k : Key} (hm : m = M / 2) (h2 : 2 ≤ M) (hM : M < 700) : ∀ {d : Nat} {t : Tr d} {w : World} {H : Hp} {p lo hi : Nat} {F : List Nat}, Tree w H p t F m M lo hi → Srt (flat t) → 1 ≤ lo → hi < 700 →
    Calls Try.prog 29 #[.pointer (some ⟨p, 0, none⟩), strV k, .int .i64 (m : Int)] w fun e w' => e = .returned (retV (tget k t)) ∧ After w H p F (tdrop k m t) w' := by
  intro d
  induction d with
  | zero => intro t w H p lo hi F h hs h1 h8; exact drop_leaf h hs h8
  | succ d ih =>
    intro t w H p lo hi F h hs h1 h8
    have HIN := Lib.hid h.hin
    have hlen := h.nb.2.2.1
    have n1 : lo ≤ t.1.length := h.nb.lo
    have n2 : t.1.length ≤ hi := h.nb.hi
    obtain ⟨i, hi0⟩ : ∃ i, i = fnd k t.1 := ⟨_, rfl⟩
    have hle : i ≤ t.1.length := by rw [hi0]; exact fnd_le k t.1
    obtain ⟨c, hc⟩ : ∃ c, t.2[i]? = some c := ⟨_, List.getElem?_eq_getElem (show i < t.2.length by omega)⟩
    have hcf : t.2[fnd k t.1]? = some c := by rw [← hi0]; exact hc
    obtain ⟨ks1, x, ks2, F1, Gx, F2, q1, q2, q3, q4, q5, rfl⟩ := one_kid h.tr hc
    have hlt := fun q hq => TrAt.lt h.hin h.tr q hq
    have nc := nd_kid h.nb hc
    have hst : Srt t.1 := srt_top h.nb hs
    have HTC := Lib.hid (show ∀ w1, Turn nowhere w w1 → Tree w1 H x c Gx m M m M from fun w1 ht => ⟨h.hin.still ht, q4, nd_mid h.nd, nc⟩)
    have HKD := Lib.hid (fun (c' : Tr d) (w1 w2 : World) (H' : Hp) (G' : List Nat) (ht : Turn nowhere w w1) (ha : AfterX w1 H x Gx c' w2 H' G') => after_kid (t := t) (i := i) (h.hin.still ht) h.nd (fun q hq => Nat.lt_of_lt_of_le (hlt q hq) ht.size) q1 q3 q5 (by omega) ha)
    have HMN := Lib.hid (fun (c' : Tr d) (tr : Nd m M (m - 1) M c') (ps' : List Pr) (hps : ps'.length = t.1.length) (w2 : World) (H' : Hp) (F' : List Nat) (w1 : World) (ha : AfterX w1 H p (p :: (F1 ++ (Gx ++ F2))) (nodeT ps' (t.2.set i c')) w2 H' F') => (show Mn (nodeT ps' (t.2.set i c')) w2 H' p m M F' from ⟨ha.to.in_, ha.tr, ha.nd, by show (t.2.set _ _).length = ps'.length + 1; rw [List.length_set, hps]; exact hlen, by show 1 ≤ ps'.length; omega, by show ps'.length < 800; omega, kids_set h.nb tr, by omega⟩))
    have HPX := Lib.hid (show p ∉ Gx from fun e => by
      have a1 := h.nd p
      have a2 := cnt_mem e
      simp only [List.count_append, List.count_cons, beq_self_eq_true, if_true] at a1
      omega)
    have HPL := Lib.hid (hlt p (List.mem_cons_self ..))
    obtain ⟨ks, hks⟩ : ∃ ks, ks = ks1 ++ x :: ks2 := ⟨_, rfl⟩
    rw [← hks] at q1
    have HL := Lib.hid (not_leaf h.tr h.nb q1)
    have hkl : ks.length = t.2.length := by
      obtain ⟨ks', F', g1, g2, _⟩ := h.tr
      obtain ⟨_, e⟩ := q1.inj g1
      rw [e, g2.len]
    have HKX := Lib.hid (show ks[i]? = some x from by rw [hks]; exact ks_at1 q2)
    obtain ⟨vp, vk, hp⟩ := q1
    obtain ⟨b, cc, e, _, _⟩ := (show NodeAt w p vp vk t.1 ks from h.hin.at_ hp).kds.some_ (by rw [List.length_map]; omega)
    obtain ⟨n, hn⟩ : ∃ n, n = ks.length := ⟨_, rfl⟩
    replace e := e.trans (show _ = Value.slice (some ⟨b, 0, none⟩) n cc from by rw [List.length_map, hn])
    subst e
    obtain ⟨b2, c2, e, _, _⟩ := (show NodeAt w p vp (.slice (some ⟨b, 0, none⟩) n cc) t.1 ks from h.hin.at_ hp).prs.some_ (by rw [List.length_map]; omega)
    obtain ⟨n0, hn0⟩ : ∃ n, n = t.1.length := ⟨_, rfl⟩
    replace e := e.trans (show _ = Value.slice (some ⟨b2, 0, none⟩) n0 c2 from by rw [List.length_map, hn0])
    subst e
    have HP := Lib.hid hp
    have HIN2 := Lib.hid (show i < n from by omega)
    have HN0 := Lib.hid hn0
    have HIL := Lib.hid (show ∀ (c' : Tr d) (ps' : List Pr), i < (nodeT ps' (t.2.set i c')).2.length from fun c' ps' => by show i < (t.2.set _ _).length; rw [List.length_set]; omega)
    have HM8 := Lib.hid (show m < 800 from by omega)
    have HIH := Lib.hid (fun (w1 : World) (ht : Turn nowhere w w1) => ih (HTC.out w1 ht) (srt_kid h.nb hs hcf) (by omega) (by omega))
    have HDL := Lib.hid (fun (w1 : World) (ht : Turn nowhere w w1) => dropLast_walk hm h2 hM (HTC.out w1 ht) (by omega) (by omega))
    have HTN := Lib.hid (tdrop_ok (k := k) hm h2 nc (by omega) (srt_kid h.nb hs hcf)).2
    have HTL := Lib.hid (tlast_ok hm h2 nc (by omega)).2
    have HF := Lib.hid (show Calls Try.prog 31 #[.pointer (some ⟨p, 0, none⟩), strV k] w fun e w' => e = .returned (.tuple #[.int .i64 (i : Int), .bool (hit k t.1)]) ∧ Turn nowhere w w' from by
      rw [hi0]
      exact find_walk (h.hin.at_ hp) hst (by omega))
    have HGN := Lib.hid (fun (hh : hit k t.1 = false) => (show tget k t = tget k c ∧ tdrop k m t = mend m i (nodeT t.1 (t.2.set i (tdrop k m c))) from ⟨tget_no (hit_no hh) hcf, by
      show (match t.2[fnd k t.1]? with | none => t | some c => if (t.1[fnd k t.1]?).map (fun q : Pr => q.1) = some k then mend m (fnd k t.1) (nodeT (t.1.set (fnd k t.1) (tlast m c).1) (t.2.set (fnd k t.1) (tlast m c).2)) else mend m (fnd k t.1) (nodeT t.1 (t.2.set (fnd k t.1) (tdrop k m c)))) = _
      rw [hcf, hi0]
      exact if_neg (hit_no hh)⟩))
    have HGY := Lib.hid (fun (hh : hit k t.1 = true) => (show ∃ q, t.1[i]? = some q ∧ tget k t = some q.2 ∧ tdrop k m t = mend m i (nodeT (t.1.set i (tlast m c).1) (t.2.set i (tlast m c).2)) from by
      obtain ⟨q, hq, hqk⟩ := hit_yes hh
      refine ⟨q, by rw [hi0]; exact hq, tget_yes hq hqk hcf, ?_⟩
      show (match t.2[fnd k t.1]? with | none => t | some c => if (t.1[fnd k t.1]?).map (fun q : Pr => q.1) = some k then mend m (fnd k t.1) (nodeT (t.1.set (fnd k t.1) (tlast m c).1) (t.2.set (fnd k t.1) (tlast m c).2)) else mend m (fnd k t.1) (nodeT t.1 (t.2.set (fnd k t.1) (tdrop k m c)))) = _
      rw [hcf, hi0]
      exact if_pos (by rw [hq, ← hqk]; rfl)))
    have HMQ := Lib.hid hm
    clear hm hks hkl hp hn hn0 q2 q3 q4 q5 hlt nc hi0 hc hcf hst hle h hs h1 h8 hlen n1 n2 ih
    go_enter Try.func29, Try.ntmps29
    go_upto_region 1 with fail
    refine wp_region_lit ?_
    refine wpList_run (v := .pointer (some ⟨p, 0, none⟩)) (wanted_none rfl) (exec_move rfl rfl) ?_
    simp only [Act.put, List.setIfInBounds_toArray, List.set_cons_zero, List.set_cons_succ]
    refine wpList_run (v := strV k) (wanted_none rfl) (exec_move rfl rfl) ?_
    simp only [Act.put, List.setIfInBounds_toArray, List.set_cons_zero, List.set_cons_succ]
    refine wpList_op rfl fun K9 HK9 => ?_
    go_wp2_with fail
    refine (HF.out).mono ?_
    rintro e w1 ⟨rfl, ht1⟩
    refine HK9.out _ _ ?_
    clear HK9
    try simp only [Act.put, List.setIfInBounds_toArray, List.set_cons_zero, List.set_cons_succ]
    refine wpList_run (v := .tuple #[.int .i64 (i : Int), .bool (hit k t.1)]) (wanted_none rfl) (exec_move rfl rfl) ?_
    simp only [Act.put, List.setIfInBounds_toArray, List.set_cons_zero, List.set_cons_succ]
    refine wpList_run (v := .int .i64 (i : Int)) (wanted_none rfl) (ix_extract rfl rfl rfl) ?_
    simp only [Act.put, List.setIfInBounds_toArray, List.set_cons_zero, List.set_cons_succ]
    refine wpList_run (v := .bool (hit k t.1)) (wanted_none rfl) (ix_extract rfl rfl rfl) ?_
    simp only [Act.put, List.setIfInBounds_toArray, List.set_cons_zero, List.set_cons_succ]
    refine wpList_run (v := .int .i64 (i : Int)) (wanted_none rfl) (gx_assign rfl rfl) ?_
    simp only [Act.put, List.setIfInBounds_toArray, List.set_cons_zero, List.set_cons_succ]
    refine wpList_run (v := .bool (hit k t.1)) (wanted_none rfl) (gx_assign rfl rfl) ?_
    simp only [Act.put, List.setIfInBounds_toArray, List.set_cons_zero, List.set_cons_succ]
    have HT1 := Lib.hid ht1
    have HI1 := Lib.hid (HIN.out.still ht1)
    clear ht1
    go_upto_region 2 with fail
    refine wp_region_lit ?_
    refine wpList_run (v := .pointer (some ⟨p, 0, none⟩)) (wanted_none rfl) (exec_move rfl rfl) ?_
    simp only [Act.put, List.setIfInBounds_toArray, List.set_cons_zero, List.set_cons_succ]
    have hw := lowest_walk (ks := ks) (HI1.out.at_ HP.out)
    rw [HL.out] at hw
    refine wpList_op rfl fun K9 HK9 => ?_
    go_wp2_with fail
    refine (hw).mono ?_
    rintro e w2 ⟨rfl, hw2⟩
    refine HK9.out _ _ ?_
    clear HK9
    try simp only [Act.put, List.setIfInBounds_toArray, List.set_cons_zero, List.set_cons_succ]
    subst hw2
    clear hw
    cases hh : hit k t.1 with
    | false =>
      obtain ⟨e1, e2⟩ := HGN.out hh
      have HE := Lib.hid e1
      have HD := Lib.hid e2
      clear e1 e2 hh
      go_upto_region 6 with fail
      refine wp_region_lit ?_
      refine wpList_run (v := .bool (false)) (wanted_none rfl) (exec_move rfl rfl) ?_
      simp only [Act.put, List.setIfInBounds_toArray, List.set_cons_zero, List.set_cons_succ]
      refine wpList_run (v := .bool true) (wanted_none rfl) (gx_not rfl rfl rfl) ?_
      simp only [Act.put, List.setIfInBounds_toArray, List.set_cons_zero, List.set_cons_succ]
      go_upto_region 7 with fail
      refine wp_region_lit ?_
      refine wpList_run (v := .pointer (some ⟨p, 0, none⟩)) (wanted_none rfl) (exec_move rfl rfl) ?_
      simp only [Act.put, List.setIfInBounds_toArray, List.set_cons_zero, List.set_cons_succ]
      refine wpList_run (v := .pointer (some ⟨p, 0, none⟩)) (wanted_none rfl) (exec_nil rfl rfl) ?_
      simp only [Act.put, List.setIfInBounds_toArray, List.set_cons_zero, List.set_cons_succ]
      refine wpList_run (v := .pointer (some ⟨p, 1, none⟩)) (wanted_none rfl) (exec_field (off := 0) (d := 1) rfl rfl (by kernel_rfl)) ?_
      simp only [Act.put, List.setIfInBounds_toArray, List.set_cons_zero, List.set_cons_succ]
      refine wpList_run (v := .slice (some ⟨b, 0, none⟩) n cc) (wanted_none rfl) (exec_load1 rfl rfl (by kernel_rfl) ((HI1.out.at_ HP.out).blk.cell 1)) ?_
      simp only [Act.put, List.setIfInBounds_toArray, List.set_cons_zero, List.set_cons_succ]
      refine wpList_run (v := .int .i64 (i : Int)) (wanted_none rfl) (exec_move rfl rfl) ?_
      simp only [Act.put, List.setIfInBounds_toArray, List.set_cons_zero, List.set_cons_succ]
      refine wpList_run (v := .pointer (some ⟨b, 0 + i * 1, none⟩)) (wanted_none rfl) (gx_iaddr (i := i) (sz := 1) rfl rfl rfl Try.underlying60 size_ptr HIN2.out rfl) ?_
      simp only [Act.put, List.setIfInBounds_toArray, List.set_cons_zero, List.set_cons_succ]
      refine wpList_run (v := .pointer (some ⟨x, 0, none⟩)) (wanted_none rfl) (exec_load1 rfl rfl (by kernel_rfl) (kid_cell (HI1.out.at_ HP.out) HKX.out)) ?_
      simp only [Act.put, List.setIfInBounds_toArray, List.set_cons_zero, List.set_cons_succ]
      refine wpList_run (v := strV k) (wanted_none rfl) (exec_move rfl rfl) ?_
      simp only [Act.put, List.setIfInBounds_toArray, List.set_cons_zero, List.set_cons_succ]
      refine wpList_run (v := .int .i64 (m : Int)) (wanted_none rfl) (exec_move rfl rfl) ?_
      simp only [Act.put, List.setIfInBounds_toArray, List.set_cons_zero, List.set_cons_succ]
      refine wpList_op rfl fun K9 HK9 => ?_
      go_wp2_with fail
      refine (HIH.out _ HT1.out).mono ?_
      rintro e w3 ⟨rfl, haf⟩
      refine HK9.out _ _ ?_
      clear HK9
      try simp only [Act.put, List.setIfInBounds_toArray, List.set_cons_zero, List.set_cons_succ]
      obtain ⟨H3, G3, hx3⟩ := haf.x
      have HX3 := Lib.hid (HKD.out _ _ _ _ _ HT1.out hx3)
      have HMW := Lib.hid (mend_walk (HMN.out _ HTN.out _ rfl _ _ _ _ HX3.out) (HIL.out _ []) HM8.out)
      clear haf hx3
      refine wpList_run (v := .tuple #[.int .i64 ((tget k c).getD 0), .bool (tget k c).isSome]) (wanted_none rfl) (exec_move rfl rfl) ?_
      simp only [Act.put, List.setIfInBounds_toArray, List.set_cons_zero, List.set_cons_succ]
      refine wpList_run (v := .int .i64 ((tget k c).getD 0)) (wanted_none rfl) (ix_extract rfl rfl rfl) ?_
      simp only [Act.put, List.setIfInBounds_toArray, List.set_cons_zero, List.set_cons_succ]
      refine wpList_run (v := .bool (tget k c).isSome) (wanted_none rfl) (ix_extract rfl rfl rfl) ?_
      simp only [Act.put, List.setIfInBounds_toArray, List.set_cons_zero, List.set_cons_succ]
      refine wpList_run (v := .int .i64 ((tget k c).getD 0)) (wanted_none rfl) (gx_assign rfl rfl) ?_
      simp only [Act.put, List.setIfInBounds_toArray, List.set_cons_zero, List.set_cons_succ]
      refine wpList_run (v := .bool (tget k c).isSome) (wanted_none rfl) (gx_assign rfl rfl) ?_
      simp only [Act.put, List.setIfInBounds_toArray, List.set_cons_zero, List.set_cons_succ]
      go_upto_region 8 with fail
      refine wp_region_lit ?_
      refine wpList_run (v := .pointer (some ⟨p, 0, none⟩)) (wanted_none rfl) (exec_move rfl rfl) ?_
      simp only [Act.put, List.setIfInBounds_toArray, List.set_cons_zero, List.set_cons_succ]
      refine wpList_run (v := .int .i64 (i : Int)) (wanted_none rfl) (exec_move rfl rfl) ?_
      simp only [Act.put, List.setIfInBounds_toArray, List.set_cons_zero, List.set_cons_succ]
      refine wpList_run (v := .int .i64 (m : Int)) (wanted_none rfl) (exec_move rfl rfl) ?_
      simp only [Act.put, List.setIfInBounds_toArray, List.set_cons_zero, List.set_cons_succ]
      refine wpList_op rfl fun K9 HK9 => ?_
      go_wp2_with fail
      refine (HMW.out).mono ?_
      rintro e w5 ⟨rfl, haf⟩
      refine HK9.out _ _ ?_
      clear HK9
      try simp only [Act.put, List.setIfInBounds_toArray, List.set_cons_zero, List.set_cons_succ]
      obtain ⟨H5, F5, hx5⟩ := haf.x
      have HX5 := Lib.hid (HX3.out.trans hx5)
      clear haf hx5
      go_upto_region 9 with fail
      refine wp_region_lit ?_
      refine wpList_run (v := .int .i64 ((tget k c).getD 0)) (wanted_none rfl) (exec_move rfl rfl) ?_
      simp only [Act.put, List.setIfInBounds_toArray, List.set_cons_zero, List.set_cons_succ]
      refine wpList_run (v := .bool (tget k c).isSome) (wanted_none rfl) (exec_move rfl rfl) ?_
      simp only [Act.put, List.setIfInBounds_toArray, List.set_cons_zero, List.set_cons_succ]
      refine wpList_run (v := .int .i64 ((tget k c).getD 0)) (wanted_none rfl) (gx_assign rfl rfl) ?_
      simp only [Act.put, List.setIfInBounds_toArray, List.set_cons_zero, List.set_cons_succ]
      refine wpList_run (v := .bool (tget k c).isSome) (wanted_none rfl) (gx_assign rfl rfl) ?_
      simp only [Act.put, List.setIfInBounds_toArray, List.set_cons_zero, List.set_cons_succ]
      go_wp2_with fail
      go_ret2
      rw [HE.out, HD.out]
      exact ⟨rfl, (AfterX.pre HIN.out HT1.out HX5.out).a⟩
    | true =>
      obtain ⟨q, hq, e1, e2⟩ := HGY.out hh
      have HQ := Lib.hid hq
      have HE := Lib.hid e1
      have HD := Lib.hid e2
      have HIP := Lib.hid (show i < n0 from by rw [HN0.out]; exact (List.getElem?_eq_some_iff.1 hq).1)
      clear hq e1 e2 hh
      go_upto_region 6 with fail
      refine wp_region_lit ?_
      refine wpList_run (v := .bool (true)) (wanted_none rfl) (exec_move rfl rfl) ?_
      simp only [Act.put, List.setIfInBounds_toArray, List.set_cons_zero, List.set_cons_succ]
      refine wpList_run (v := .bool false) (wanted_none rfl) (gx_not rfl rfl rfl) ?_
      simp only [Act.put, List.setIfInBounds_toArray, List.set_cons_zero, List.set_cons_succ]
      go_upto_region 10 with fail
      refine wp_region_lit ?_
      refine wpList_run (v := .pointer (some ⟨p, 0, none⟩)) (wanted_none rfl) (exec_move rfl rfl) ?_
      simp only [Act.put, List.setIfInBounds_toArray, List.set_cons_zero, List.set_cons_succ]
      refine wpList_run (v := .pointer (some ⟨p, 0, none⟩)) (wanted_none rfl) (exec_nil rfl rfl) ?_
      simp only [Act.put, List.setIfInBounds_toArray, List.set_cons_zero, List.set_cons_succ]
      refine wpList_run (v := .pointer (some ⟨p, 0, none⟩)) (wanted_none rfl) (exec_field (off := 0) (d := 0) rfl rfl (by kernel_rfl)) ?_
      simp only [Act.put, List.setIfInBounds_toArray, List.set_cons_zero, List.set_cons_succ]
      refine wpList_run (v := .slice (some ⟨b2, 0, none⟩) n0 c2) (wanted_none rfl) (exec_load1 rfl rfl (by kernel_rfl) ((HI1.out.at_ HP.out).blk.cell 0)) ?_
      simp only [Act.put, List.setIfInBounds_toArray, List.set_cons_zero, List.set_cons_succ]
      refine wpList_run (v := .int .i64 (i : Int)) (wanted_none rfl) (exec_move rfl rfl) ?_
      simp only [Act.put, List.setIfInBounds_toArray, List.set_cons_zero, List.set_cons_succ]
      refine wpList_run (v := .pointer (some ⟨b2, 0 + i * 2, none⟩)) (wanted_none rfl) (gx_iaddr (i := i) (sz := 2) rfl rfl rfl Try.underlying59 size_pair HIP.out rfl) ?_
      simp only [Act.put, List.setIfInBounds_toArray, List.set_cons_zero, List.set_cons_succ]
      refine wpList_run (v := .pointer (some ⟨b2, 0 + i * 2 + 1, none⟩)) (wanted_none rfl) (exec_field (off := 0 + i * 2) (d := 1) rfl rfl (by kernel_rfl)) ?_
      simp only [Act.put, List.setIfInBounds_toArray, List.set_cons_zero, List.set_cons_succ]
      refine wpList_run (v := .int .i64 q.2) (wanted_none rfl) (exec_load1 rfl rfl (by kernel_rfl) ((HI1.out.at_ HP.out).prs.el0 (r := encP q) (by rw [List.getElem?_map, HQ.out]; rfl) 1 _ rfl)) ?_
      simp only [Act.put, List.setIfInBounds_toArray, List.set_cons_zero, List.set_cons_succ]
      refine wpList_run (v := .int .i64 q.2) (wanted_none rfl) (gx_assign rfl rfl) ?_
      simp only [Act.put, List.setIfInBounds_toArray, List.set_cons_zero, List.set_cons_succ]
      go_upto_region 11 with fail
      refine wp_region_till (fun W => Blk W p 62 #[.slice (some ⟨b2, 0, none⟩) n0 c2, .slice (some ⟨b, 0, none⟩) n cc] ∧ W.cell? ⟨b, 0 + i * 1, none⟩ = some (.pointer (some ⟨x, 0, none⟩))) 14 (by kernel_rfl) ?_
      have HD1 := Lib.hid ((Turn.refl nowhere w2).drew)
      have HI2 := Lib.hid (HI1.out.still HD1.out)
      have hS0 : Blk w2.drew p 62 #[.slice (some ⟨b2, 0, none⟩) n0 c2, .slice (some ⟨b, 0, none⟩) n cc] ∧ w2.drew.cell? ⟨b, 0 + i * 1, none⟩ = some (.pointer (some ⟨x, 0, none⟩)) := ⟨(HI2.out.at_ HP.out).blk, kid_cell (HI2.out.at_ HP.out) HKX.out⟩
      refine till_take (i := 0) (v := .pointer (some ⟨p, 0, none⟩)) rfl (by kernel_rfl) (by kernel_rfl) (fun _ _ _ h => h) (.inl ⟨by rfl, fun W hW => exec_move rfl rfl⟩) hS0 ?_
      simp only [Act.put, List.setIfInBounds_toArray, List.set_cons_zero, List.set_cons_succ]
      refine till_take (i := 1) (v := .pointer (some ⟨p, 0, none⟩)) rfl (by kernel_rfl) (by kernel_rfl) (fun _ _ _ h => h) (.inl ⟨by rfl, fun W hW => exec_nil rfl rfl⟩) hS0 ?_
      simp only [Act.put, List.setIfInBounds_toArray, List.set_cons_zero, List.set_cons_succ]
      refine till_take (i := 2) (v := .pointer (some ⟨p, 0, none⟩)) rfl (by kernel_rfl) (by kernel_rfl) (fun _ _ _ h => h) (.inl ⟨by rfl, fun W hW => exec_field (off := 0) (d := 0) rfl rfl (by kernel_rfl)⟩) hS0 ?_
      simp only [Act.put, List.setIfInBounds_toArray, List.set_cons_zero, List.set_cons_succ]
      refine till_take (i := 3) (v := .slice (some ⟨b2, 0, none⟩) n0 c2) rfl (by kernel_rfl) (by kernel_rfl) (fun _ _ _ h => h) (.inl ⟨by rfl, fun W hW => exec_load1 rfl rfl (by kernel_rfl) (hW.1.cell 0)⟩) hS0 ?_
      simp only [Act.put, List.setIfInBounds_toArray, List.set_cons_zero, List.set_cons_succ]
      refine till_take (i := 4) (v := .int .i64 (i : Int)) rfl (by kernel_rfl) (by kernel_rfl) (fun _ _ _ h => h) (.inl ⟨by rfl, fun W hW => exec_move rfl rfl⟩) hS0 ?_
      simp only [Act.put, List.setIfInBounds_toArray, List.set_cons_zero, List.set_cons_succ]
      refine till_take (i := 5) (v := .pointer (some ⟨p, 0, none⟩)) rfl (by kernel_rfl) (by kernel_rfl) (fun _ _ _ h => h) (.inl ⟨by rfl, fun W hW => exec_move rfl rfl⟩) hS0 ?_
      simp only [Act.put, List.setIfInBounds_toArray, List.set_cons_zero, List.set_cons_succ]
      refine till_take (i := 6) (v := .pointer (some ⟨p, 0, none⟩)) rfl (by kernel_rfl) (by kernel_rfl) (fun _ _ _ h => h) (.inl ⟨by rfl, fun W hW => exec_nil rfl rfl⟩) hS0 ?_
      simp only [Act.put, List.setIfInBounds_toArray, List.set_cons_zero, List.set_cons_succ]
      refine till_take (i := 7) (v := .pointer (some ⟨p, 1, none⟩)) rfl (by kernel_rfl) (by kernel_rfl) (fun _ _ _ h => h) (.inl ⟨by rfl, fun W hW => exec_field (off := 0) (d := 1) rfl rfl (by kernel_rfl)⟩) hS0 ?_
      simp only [Act.put, List.setIfInBounds_toArray, List.set_cons_zero, List.set_cons_succ]
      refine till_take (i := 8) (v := .slice (some ⟨b, 0, none⟩) n cc) rfl (by kernel_rfl) (by kernel_rfl) (fun _ _ _ h => h) (.inl ⟨by rfl, fun W hW => exec_load1 rfl rfl (by kernel_rfl) (hW.1.cell 1)⟩) hS0 ?_
      simp only [Act.put, List.setIfInBounds_toArray, List.set_cons_zero, List.set_cons_succ]
      refine till_take (i := 9) (v := .int .i64 (i : Int)) rfl (by kernel_rfl) (by kernel_rfl) (fun _ _ _ h => h) (.inl ⟨by rfl, fun W hW => exec_move rfl rfl⟩) hS0 ?_
      simp only [Act.put, List.setIfInBounds_toArray, List.set_cons_zero, List.set_cons_succ]
      refine till_take (i := 10) (v := .pointer (some ⟨b, 0 + i * 1, none⟩)) rfl (by kernel_rfl) (by kernel_rfl) (fun _ _ _ h => h) (.inl ⟨by rfl, fun W hW => gx_iaddr (i := i) (sz := 1) rfl rfl rfl Try.underlying60 size_ptr HIN2.out rfl⟩) hS0 ?_
      simp only [Act.put, List.setIfInBounds_toArray, List.set_cons_zero, List.set_cons_succ]
      refine till_take (i := 11) (v := .pointer (some ⟨x, 0, none⟩)) rfl (by kernel_rfl) (by kernel_rfl) (fun _ _ _ h => h) (.inl ⟨by rfl, fun W hW => exec_load1 rfl rfl (by kernel_rfl) hW.2⟩) hS0 ?_
      simp only [Act.put, List.setIfInBounds_toArray, List.set_cons_zero, List.set_cons_succ]
      refine till_take (i := 12) (v := .int .i64 (m : Int)) rfl (by kernel_rfl) (by kernel_rfl) (fun _ _ _ h => h) (.inl ⟨by rfl, fun W hW => exec_move rfl rfl⟩) hS0 ?_
      simp only [Act.put, List.setIfInBounds_toArray, List.set_cons_zero, List.set_cons_succ]
      have HT12 := Lib.hid (HT1.out.trans HD1.out fun _ _ e => e)
      refine till_step (i := 13) (by kernel_rfl) rfl rfl ?_
      intro K1 HK1
      go_wp2_with fail
      refine (HDL.out _ HT12.out).mono ?_
      rintro e w3 ⟨rfl, haf⟩
      obtain ⟨H3, G3, hx3⟩ := haf.x
      have hp3 := (hx3.off p HPX.out (Nat.lt_of_lt_of_le HPL.out HT12.out.size)).trans HP.out
      have hS3 : Blk w3 p 62 #[.slice (some ⟨b2, 0, none⟩) n0 c2, .slice (some ⟨b, 0, none⟩) n cc] ∧ w3.cell? ⟨b, 0 + i * 1, none⟩ = some (.pointer (some ⟨x, 0, none⟩)) := ⟨(hx3.to.in_.at_ hp3).blk, kid_cell (hx3.to.in_.at_ hp3) HKX.out⟩
      refine HK1.out _ _ ⟨fun _ => hS3, ?_⟩
      clear HK1
      try simp only [Act.put, List.setIfInBounds_toArray, List.set_cons_zero, List.set_cons_succ]
      refine till_tail 14 rfl (by kernel_rfl) ?_
      refine wpList_run (v := .pointer (some ⟨b2, 0 + i * 2, none⟩)) (wanted_none rfl) (gx_iaddr (i := i) (sz := 2) rfl rfl rfl Try.underlying59 size_pair HIP.out rfl) ?_
      simp only [Act.put, List.setIfInBounds_toArray, List.set_cons_zero, List.set_cons_succ]
      have HP3 := Lib.hid hp3
      have HX3 := Lib.hid (HKD.out _ _ _ _ _ HT12.out hx3)
      have HI3 := Lib.hid hx3.to.in_
      clear hp3 hx3 haf hS3 hS0
      obtain ⟨cur, hcur, hcs, _, _, hnc, _, _⟩ := orw_block (HI3.out.at_ HP3.out).prs
      refine wpList_store_mid rfl 65 _ _ rfl (g := b2) (off := 0 + i * 2) (t := 65) (encP (tlast m c).1).toArray hcur rfl rfl (by rw [hcs]; show 0 + i * 2 + 2 ≤ c2 * 2; have := HIP.out; omega) (by rw [size_pair]; rfl) (fun v hv => encP_one (tlast m c).1 v (by simpa using hv)) ?_
      intro w6 C6 hb6 hs6 hc6 ht6
      have hrow6 := orw_mid (HI3.out.at_ HP3.out).prs hcur hb6 hs6 HIP.out hc6
      have ht6' : Turn (fun bb => (.slice (some ⟨b2, 0, none⟩) n0 c2 : Value).ownBlock = some bb) w3 w6 := ht6.mono fun k _ e => by
        have e : k = b2 := e
        rw [e]; rfl
      have hset := HI3.out.setP (ps' := t.1.set i (tlast m c).1) HP3.out ht6' (fun b hb => .inl hb) (Turn.refl _ _) (HI3.out.blkP HP3.out HP3.out ht6') hrow6
      have HX6 := Lib.hid (HX3.out.trans (after_pairs HX3.out.tr HX3.out.nd ⟨_, _, HP3.out⟩ hset (Is.up_ _ _ _) (same_up _ _ _)))
      clear hcur hcs hnc hb6 hs6 hc6 ht6 hrow6 ht6' hset
      refine wpList_nil ?_
      refine NoPanic.normal ?_
      try simp only [Act.put, List.setIfInBounds_toArray, List.set_cons_zero, List.set_cons_succ]
      have HMW := Lib.hid (mend_walk (HMN.out _ HTL.out (t.1.set i (tlast m c).1) (List.length_set ..) _ _ _ _ HX6.out) (HIL.out _ []) HM8.out)
      go_upto_region 12 with fail
      refine wp_region_lit ?_
      refine wpList_run (v := .pointer (some ⟨p, 0, none⟩)) (wanted_none rfl) (exec_move rfl rfl) ?_
      simp only [Act.put, List.setIfInBounds_toArray, List.set_cons_zero, List.set_cons_succ]
      refine wpList_run (v := .int .i64 (i : Int)) (wanted_none rfl) (exec_move rfl rfl) ?_
      simp only [Act.put, List.setIfInBounds_toArray, List.set_cons_zero, List.set_cons_succ]
      refine wpList_run (v := .int .i64 (m : Int)) (wanted_none rfl) (exec_move rfl rfl) ?_
      simp only [Act.put, List.setIfInBounds_toArray, List.set_cons_zero, List.set_cons_succ]
      refine wpList_op rfl fun K9 HK9 => ?_
      go_wp2_with fail
      refine (HMW.out).mono ?_
      rintro e w7 ⟨rfl, haf⟩
      refine HK9.out _ _ ?_
      clear HK9
      try simp only [Act.put, List.setIfInBounds_toArray, List.set_cons_zero, List.set_cons_succ]
      obtain ⟨H7, F7, hx7⟩ := haf.x
      have HX7 := Lib.hid (HX6.out.trans hx7)
      clear haf hx7
      go_upto_region 13 with fail
      refine wp_region_lit ?_
      refine wpList_run (v := .int .i64 q.2) (wanted_none rfl) (exec_move rfl rfl) ?_
      simp only [Act.put, List.setIfInBounds_toArray, List.set_cons_zero, List.set_cons_succ]
      refine wpList_run (v := .int .i64 q.2) (wanted_none rfl) (gx_assign rfl rfl) ?_
      simp only [Act.put, List.setIfInBounds_toArray, List.set_cons_zero, List.set_cons_succ]
      refine wpList_run (v := .bool true) (wanted_none rfl) (gx_assign rfl rfl) ?_
      simp only [Act.put, List.setIfInBounds_toArray, List.set_cons_zero, List.set_cons_succ]
      go_wp2_with fail
      go_ret2
      rw [HE.out, HD.out]
      exact ⟨rfl, (AfterX.pre HIN.out HT12.out HX7.out).a⟩
end Go.Proofs.Ytmlkdkbpbleilaa
