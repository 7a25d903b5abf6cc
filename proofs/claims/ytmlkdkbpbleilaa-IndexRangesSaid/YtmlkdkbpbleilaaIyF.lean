/-
  Index: going through a tree: walk. No conditions.
-/
import Derived.Test.YtmlkdkbpbleilaaIyE
namespace Go.Proofs.Ytmlkdkbpbleilaa
open Go.RowKit
open Ix
set_option linter.unusedVariables false
set_option linter.unusedSimpArgs false
/-- all of a row are below the end -/
def Ok (to : Key) (a : List Pr) : Prop := ∀ q ∈ a, stopAt to q = false
theorem Ok.app {to : Key} {a b : List Pr} (h : Ok to a) (g : Ok to b) : Ok to (a ++ b) := fun q hq => (List.mem_append.1 hq).elim (h q) (g q)
/-- told so far l, r was to come: somebody stopped -/
def Stops (to : Key) (J Jx : List Pr → World → Prop) (l r : List Pr) (W : World) : Prop :=
  (∃ a p b, r = a ++ p :: b ∧ Ok to a ∧ stopAt to p = true ∧ J (l ++ a) W) ∨ ∃ a b, r = a ++ b ∧ Ok to a ∧ Jx (l ++ a) W
theorem Stops.pre {to : Key} {J Jx : List Pr → World → Prop} {l c r : List Pr} {W : World} (hc : Ok to c) (h : Stops to J Jx (l ++ c) r W) : Stops to J Jx l (c ++ r) W := by
  rcases h with ⟨a, p, b, rfl, h1, h2, h3⟩ | ⟨a, b, rfl, h1, h2⟩
  · exact .inl ⟨c ++ a, p, b, by simp, hc.app h1, h2, by rwa [← List.append_assoc]⟩
  · exact .inr ⟨c ++ a, b, by simp, hc.app h1, by rwa [← List.append_assoc]⟩
theorem Stops.app {to : Key} {J Jx : List Pr → World → Prop} {l r : List Pr} {W : World} (s : List Pr) (h : Stops to J Jx l r W) : Stops to J Jx l (r ++ s) W := by
  rcases h with ⟨a, p, b, rfl, h1, h2, h3⟩ | ⟨a, b, rfl, h1, h2⟩
  · exact .inl ⟨a, p, b ++ s, by simp, h1, h2, h3⟩
  · exact .inr ⟨a, b ++ s, by simp, h1, h2⟩
/-- how going through r ends, behind l -/
def WEnd (to : Key) (J Jx : List Pr → World → Prop) (l r : List Pr) (e : Ending) (W : World) : Prop :=
  (e = .returned (.bool true) ∧ Ok to r ∧ J (l ++ r) W) ∨ (e = .returned (.bool false) ∧ Stops to J Jx l r W)
theorem WEnd.pre {to : Key} {J Jx : List Pr → World → Prop} {l c r : List Pr} {e : Ending} {W : World} (hc : Ok to c) (h : WEnd to J Jx (l ++ c) r e W) : WEnd to J Jx l (c ++ r) e W := by
  rcases h with ⟨h1, h2, h3⟩ | ⟨h1, h2⟩
  · exact .inl ⟨h1, hc.app h2, by rwa [← List.append_assoc]⟩
  · exact .inr ⟨h1, h2.pre hc⟩
theorem WEnd.nil {to : Key} {J Jx : List Pr → World → Prop} {l : List Pr} {W : World} (h : J l W) : WEnd to J Jx l [] (.returned (.bool true)) W :=
  .inl ⟨rfl, fun q hq => absurd hq List.not_mem_nil, by rw [List.append_nil]; exact h⟩
/-- there is room for all that comes -/
def Room (to : Key) (N : Nat) (l r : List Pr) : Prop := ∀ a p b, r = a ++ p :: b → Ok to (a ++ [p]) → l.length + a.length < N
theorem Room.left {to : Key} {N : Nat} {l r s : List Pr} (h : Room to N l (r ++ s)) : Room to N l r := fun a p b e g => h a p (b ++ s) (by rw [e]; simp) g
theorem Room.right {to : Key} {N : Nat} {l r s : List Pr} (h : Room to N l (r ++ s)) (hr : Ok to r) : Room to N (l ++ r) s := fun a p b e g => by
  have := h (r ++ a) p b (by rw [e]; simp) (by rw [List.append_assoc]; exact hr.app g)
  rw [List.length_append] at this ⊢
  omega
theorem Room.head {to : Key} {N : Nat} {l r : List Pr} {p : Pr} (h : Room to N l (p :: r)) (hp : stopAt to p = false) : l.length < N := by
  have := h [] p r rfl (fun q hq => by
    rw [List.nil_append, List.mem_singleton] at hq
    rw [hq]; exact hp)
  simpa using this
/-- behind the kid at i: pairs and kids -/
def tlr (K : Nat → List Pr) : List Pr → Nat → List Pr
  | [], _ => []
  | p :: ps, i => p :: (K (i + 1) ++ tlr K ps (i + 1))
def telV (y x b : Nat) : Value := .func (.func 36) #[] #[.pointer (some ⟨y, 0, none⟩), .pointer (some ⟨x, 0, none⟩), .pointer (some ⟨b, 0, none⟩)]
/-- what is asked of who is told -/
def TellC (y x b : Nat) (J Jx : List Pr → World → Prop) (N : Nat) : Prop := ∀ (l : List Pr) (p : Pr) (W : World), J l W → l.length < N →
  Calls Try.prog 36 #[.agg (encP p).toArray, .pointer (some ⟨y, 0, none⟩), .pointer (some ⟨x, 0, none⟩), .pointer (some ⟨b, 0, none⟩)] W fun e W' => (e = .returned (.bool true) ∧ J (l ++ [p]) W') ∨ (e = .returned (.bool false) ∧ Jx (l ++ [p]) W')
def JT (J : List Pr → World → Prop) : Prop := ∀ l W W', J l W → Turn nowhere W W' → J l W'
def WalkC (y x b : Nat) (fr to : Key) (J Jx : List Pr → World → Prop) (N : Nat) (p : Nat) (r : List Pr) : Prop := ∀ (l : List Pr) (W : World), J l W → Room to N l r →
  Calls Try.prog 35 #[.pointer (some ⟨p, 0, none⟩), strV fr, strV to, telV y x b] W (WEnd to J Jx l r)
theorem node_cell0 {w : World} {p : Nat} {vp vk : Value} {ps : List Pr} {ks : List Nat} (h : NodeAt w p vp vk ps ks) : w.cell? ⟨p, 0, none⟩ = some vp := h.blk.cell 0
theorem pair_cell0 {w : World} {b n c : Nat} {ps : List Pr} {i : Nat} {u : Pr} (h : Orw w 0 65 2 (.slice (some ⟨b, 0, none⟩) n c) (ps.map encP)) (hu : ps[i]? = some u) : w.cell? ⟨b, i * 2, none⟩ = some (strV u.1) := by
  have := h.el0 (r := encP u) (by rw [List.getElem?_map, hu]; rfl) 0 _ rfl
  rwa [Nat.zero_add] at this
theorem pair_cell1 {w : World} {b n c : Nat} {ps : List Pr} {i : Nat} {u : Pr} (h : Orw w 0 65 2 (.slice (some ⟨b, 0, none⟩) n c) (ps.map encP)) (hu : ps[i]? = some u) : w.cell? ⟨b, i * 2 + 1, none⟩ = some (.int .i64 u.2) := by
  have := h.el0 (r := encP u) (by rw [List.getElem?_map, hu]; rfl) 1 _ rfl
  rwa [Nat.zero_add] at this
theorem stopAt_nil (p : Pr) : stopAt [] p = false := rfl
theorem stopAt_some {to : Key} (h : to ≠ []) (p : Pr) : stopAt to p = !klt p.1 to := by
  unfold stopAt
  rw [show (to != []) = true from by simpa using h, Bool.true_and]
set_option maxRecDepth 20000 in
set_option maxHeartbeats 8000000 in
theorem walk_node {H : Hp} {y x b : Nat} {fr to : Key} {J Jx : List Pr → World → Prop} {N : Nat} (hT : TellC y x b J Jx N) (hJ : JT J) (hin : ∀ l W, J l W → In W H) {p : Nat} {ps : List Pr} {ks : List Nat} {vp vk : Value} (hp : H p = some ⟨ps, ks, vp, vk⟩)
    (hs : Srt ps) (hl : ps.length ≤ 64) {f : Nat} (hf : f = fnd fr ps) {K : Nat → List Pr} (hk : (ks = [] ∧ ∀ i, K i = []) ∨ (ks ≠ [] ∧ ∀ i, f ≤ i → i ≤ ps.length → ∃ kp, ks[i]? = some kp ∧ WalkC y x b fr to J Jx N kp (K i))) :
    WalkC y x b fr to J Jx N p (K f ++ tlr K (ps.drop f) f) := by
  intro l W h1 h3
  have HTE := Lib.hid hT
  have HJT := Lib.hid hJ
  have HIN := Lib.hid hin
  have HP := Lib.hid hp
  have HK := Lib.hid hk
  have HLN := Lib.hid hl
  have HFN := Lib.hid (show f ≤ ps.length from by rw [hf]; exact fnd_le _ _)
  have HF := Lib.hid (show Calls Try.prog 31 #[.pointer (some ⟨p, 0, none⟩), strV fr] W fun e w' => e = .returned (.tuple #[.int .i64 (f : Int), .bool (hit fr ps)]) ∧ Turn nowhere W w' from by
    rw [hf]
    exact find_walk ((hin _ _ h1).at_ hp) hs (by omega))
  have HJ0 := Lib.hid h1
  have HR0 := Lib.hid h3
  obtain ⟨r0, hr0⟩ : ∃ r, r = K f ++ tlr K (ps.drop f) f := ⟨_, rfl⟩
  have HR0E := Lib.hid hr0
  rw [← hr0]
  obtain ⟨n, hn⟩ : ∃ n, n = ps.length := ⟨_, rfl⟩
  have HN := Lib.hid hn
  clear h1 h3 hT hJ hin hp hk hf hs hl hr0 hn
  have HFN2 := Lib.hid (show f ≤ n from by rw [HN.out]; exact HFN.out)
  have HN64 := Lib.hid (show n ≤ 64 from by rw [HN.out]; exact HLN.out)
  have y9 : (n : Int) ≤ 64 := by have := HN64.out; omega
  have y8 : (f : Int) ≤ (n : Int) := by have := HFN2.out; omega
  unfold telV
  go_enter Try.func35, Try.ntmps35
  go_upto_region 0 with fail
  refine wp_region_lit ?_
  refine wpList_run (v := .bool false) (wanted_none rfl) (gx_assign rfl rfl) ?_
  simp only [Act.put, List.setIfInBounds_toArray, List.set_cons_zero, List.set_cons_succ]
  go_upto_region 1 with fail
  refine wp_region_lit ?_
  refine wpList_run (v := .pointer (some ⟨p, 0, none⟩)) (wanted_none rfl) (exec_move rfl rfl) ?_
  simp only [Act.put, List.setIfInBounds_toArray, List.set_cons_zero, List.set_cons_succ]
  refine wpList_run (v := strV fr) (wanted_none rfl) (exec_move rfl rfl) ?_
  simp only [Act.put, List.setIfInBounds_toArray, List.set_cons_zero, List.set_cons_succ]
  refine wpList_op rfl fun K9 HK9 => ?_
  go_wp2_with fail
  refine (HF.out).mono ?_
  rintro e w1 ⟨rfl, ht1⟩
  refine HK9.out _ _ ?_
  clear HK9
  try simp only [Act.put, List.setIfInBounds_toArray, List.set_cons_zero, List.set_cons_succ]
  refine wpList_run (v := .tuple #[.int .i64 (f : Int), .bool (hit fr ps)]) (wanted_none rfl) (exec_move rfl rfl) ?_
  simp only [Act.put, List.setIfInBounds_toArray, List.set_cons_zero, List.set_cons_succ]
  refine wpList_run (v := .int .i64 (f : Int)) (wanted_none rfl) (ix_extract rfl rfl rfl) ?_
  simp only [Act.put, List.setIfInBounds_toArray, List.set_cons_zero, List.set_cons_succ]
  refine wpList_run (v := .bool (hit fr ps)) (wanted_none rfl) (ix_extract rfl rfl rfl) ?_
  simp only [Act.put, List.setIfInBounds_toArray, List.set_cons_zero, List.set_cons_succ]
  refine wpList_run (v := .int .i64 (f : Int)) (wanted_none rfl) (gx_assign rfl rfl) ?_
  simp only [Act.put, List.setIfInBounds_toArray, List.set_cons_zero, List.set_cons_succ]
  refine wpList_run (v := .bool (hit fr ps)) (wanted_none rfl) (gx_assign rfl rfl) ?_
  simp only [Act.put, List.setIfInBounds_toArray, List.set_cons_zero, List.set_cons_succ]
  have HJ1 := Lib.hid (HJT.out _ _ _ HJ0.out ht1)
  clear ht1
  go_wp2_with fail
  go_loopg [9] (n - f) (fun gk iv wr => ∃ (i : Nat) (l1 : List Pr), iv = .int .i64 (i : Int) ∧ i + gk = n ∧ f ≤ i ∧ J l1 wr ∧ Room to N l1 (K i ++ tlr K (ps.drop i) i) ∧ ∀ e W', WEnd to J Jx l1 (K i ++ tlr K (ps.drop i) i) e W' → WEnd to J Jx l r0 e W')
  case atStart => exact ⟨f, l, rfl, by have := HFN2.out; omega, Nat.le_refl _, HJ1.out, HR0.out, fun e W' h => by rw [HR0E.out]; exact h⟩
  obtain ⟨i, l1, rfl, hgk, hfi, hj, hr, hfin⟩ := hrel
  have HGK := Lib.hid hgk
  have HFI := Lib.hid hfi
  have HIN2 := Lib.hid (show i ≤ n from by omega)
  have HJ := Lib.hid hj
  have HR := Lib.hid hr
  have HFIN := Lib.hid hfin
  have y1 : (i : Int) ≤ (n : Int) := by omega
  have HI := Lib.hid (HIN.out _ _ hj)
  have HW := Lib.hid (lowest_walk (HI.out.at_ HP.out))
  clear hgk hfi hj hr hfin
  rcases HK.out with ⟨hks, hk0⟩ | ⟨hks, hkid⟩
  · rw [show decide (ks = []) = true from decide_eq_true hks] at HW
    rw [hk0 i] at HR HFIN
    have HJ2 := HJ
    have HR2 := Lib.hid (show Room to N l1 (tlr K (ps.drop i) i) from HR.out)
    have HF2 := Lib.hid (show ∀ e W', WEnd to J Jx l1 (tlr K (ps.drop i) i) e W' → WEnd to J Jx l r0 e W' from HFIN.out)
    obtain ⟨l2, hl2⟩ : ∃ l2, l2 = l1 := ⟨_, rfl⟩
    rw [← hl2] at HJ2 HR2 HF2
    clear hl2 hks hk0
    go_upto_region 3 with fail
    rename_i K8 hK8
    have HKB := Lib.hid hK8
    clear hK8
    refine wp_region_lit ?_
    refine wpList_run (v := .pointer (some ⟨p, 0, none⟩)) (wanted_none rfl) (exec_move rfl rfl) ?_
    simp only [Act.put, List.setIfInBounds_toArray, List.set_cons_zero, List.set_cons_succ]
    refine wpList_op (wanted_none rfl) fun K9 HK9 => ?_
    go_wp2_with fail
    refine (HW.out).mono ?_
    rintro e w2 ⟨rfl, hw2⟩
    refine HK9.out _ _ ?_
    clear HK9
    try simp only [Act.put, List.setIfInBounds_toArray, List.set_cons_zero, List.set_cons_succ]
    subst hw2
    refine wpList_run (v := .bool false) (wanted_none rfl) (ix_not (b := true) rfl rfl) ?_
    simp only [Act.put, List.setIfInBounds_toArray, List.set_cons_zero, List.set_cons_succ]
    refine wpList_run (v := .bool false) (wanted_none rfl) (exec_move rfl rfl) ?_
    simp only [Act.put, List.setIfInBounds_toArray, List.set_cons_zero, List.set_cons_succ]
    go_wp2_with fail
    refine HKB.out _ _ ?_
    have HI2 := Lib.hid (HIN.out _ _ HJ2.out)
    obtain ⟨AP, cP, e9, _, _, _, _⟩ := (HI2.out.at_ HP.out).prs.form
    rw [List.length_map] at e9
    replace e9 := e9.trans (show _ = Value.slice AP n cP from by rw [HN.out])
    subst e9
    by_cases hin : i < n
    · have y2 : (i : Int) < (n : Int) := by omega
      have HIL := Lib.hid hin
      go_upto_region 5 with fail
      refine wp_region_lit ?_
      refine wpList_run (v := .int .i64 (i : Int)) (wanted_none rfl) (exec_move rfl rfl) ?_
      simp only [Act.put, List.setIfInBounds_toArray, List.set_cons_zero, List.set_cons_succ]
      refine wpList_run (v := .pointer (some ⟨p, 0, none⟩)) (wanted_none rfl) (exec_move rfl rfl) ?_
      simp only [Act.put, List.setIfInBounds_toArray, List.set_cons_zero, List.set_cons_succ]
      refine wpList_run (v := .pointer (some ⟨p, 0, none⟩)) (wanted_none rfl) (exec_nil rfl rfl) ?_
      simp only [Act.put, List.setIfInBounds_toArray, List.set_cons_zero, List.set_cons_succ]
      refine wpList_run (v := .pointer (some ⟨p, 0, none⟩)) (wanted_none rfl) (exec_field (off := 0) (d := 0) rfl rfl (by kernel_rfl)) ?_
      simp only [Act.put, List.setIfInBounds_toArray, List.set_cons_zero, List.set_cons_succ]
      refine wpList_run (v := .slice AP n cP) (wanted_none rfl) (exec_load1 rfl rfl (by kernel_rfl) ((HI2.out.at_ HP.out).blk.cell 0)) ?_
      simp only [Act.put, List.setIfInBounds_toArray, List.set_cons_zero, List.set_cons_succ]
      refine wpList_run (v := .int .i64 (n : Int)) (wanted_none rfl) (gx_len rfl rfl Try.underlying59) ?_
      simp only [Act.put, List.setIfInBounds_toArray, List.set_cons_zero, List.set_cons_succ]
      refine wpList_run (v := .bool false) (wanted_none rfl) (ix_eql rfl rfl rfl (decide_eq_false (by omega))) ?_
      simp only [Act.put, List.setIfInBounds_toArray, List.set_cons_zero, List.set_cons_succ]
      obtain ⟨bP, cP2, e8, _, _⟩ := (HI2.out.at_ HP.out).prs.some_ (by rw [List.length_map, ← HN.out]; omega)
      rw [List.length_map] at e8
      replace e8 := e8.trans (show _ = Value.slice (some ⟨bP, 0, none⟩) n cP2 from by rw [HN.out])
      injection e8 with e5 e6 e7
      subst e5 e7
      obtain ⟨u, hu⟩ : ∃ u, ps[i]? = some u := ⟨_, List.getElem?_eq_getElem (show i < ps.length from by rw [← HN.out]; exact hin)⟩
      have HU := Lib.hid hu
      have HDR := Lib.hid (show ps.drop i = u :: ps.drop (i + 1) from by
        obtain ⟨h1, h2⟩ := List.getElem?_eq_some_iff.1 hu
        rw [List.drop_eq_getElem_cons h1, h2])
      rw [HDR.out] at HR2 HF2
      clear e6 hu hin
      go_upto_region 7 with fail
      rename_i K9 hK9
      have HKC := Lib.hid hK9
      clear hK9
      refine wp_region_lit ?_
      refine wpList_run (v := strV to) (wanted_none rfl) (exec_move rfl rfl) ?_
      simp only [Act.put, List.setIfInBounds_toArray, List.set_cons_zero, List.set_cons_succ]
      by_cases hto : to = []
      · have HSF := Lib.hid (show stopAt to u = false from by rw [hto]; rfl)
        have HTN := Lib.hid (show (!(to == ([] : Key))) = false from by rw [hto]; rfl)
        clear hto
        refine wpList_run (v := .bool false) (wanted_none rfl) ((exec_sneq (l := to) (m := []) rfl rfl rfl).trans (by rw [HTN.out])) ?_
        simp only [Act.put, List.setIfInBounds_toArray, List.set_cons_zero, List.set_cons_succ]
        refine wpList_run (v := .bool false) (wanted_none rfl) (exec_move rfl rfl) ?_
        simp only [Act.put, List.setIfInBounds_toArray, List.set_cons_zero, List.set_cons_succ]
        have hc := node_cell0 (HI2.out.at_ HP.out)
        have hc1 := pair_cell0 (HI2.out.at_ HP.out).prs HU.out
        have hc2 := pair_cell1 (HI2.out.at_ HP.out).prs HU.out
        have HTL := Lib.hid (HTE.out l2 u _ HJ2.out (HR2.out.head HSF.out))
        go_wp2_with fail
        refine HTL.out.mono ?_
        rintro e W3 (⟨rfl, hj3⟩ | ⟨rfl, hx3⟩)
        · have HJ3 := Lib.hid hj3
          clear hj3
          go_wp2_with fail
          refine HKC.out _ _ ?_
          go_upto_region 2 with fail
          refine wp_region_lit ?_
          refine wpList_run (v := .int .i64 (i : Int)) (wanted_none rfl) (exec_move rfl rfl) ?_
          simp only [Act.put, List.setIfInBounds_toArray, List.set_cons_zero, List.set_cons_succ]
          refine wpList_run (v := .int .i64 ((i + 1 : Nat) : Int)) (wanted_none rfl) (ix_add rfl rfl rfl (by omega) (by omega)) ?_
          simp only [Act.put, List.setIfInBounds_toArray, List.set_cons_zero, List.set_cons_succ]
          refine wpList_run (v := .int .i64 ((i + 1 : Nat) : Int)) (wanted_none rfl) (gx_assign rfl rfl) ?_
          simp only [Act.put, List.setIfInBounds_toArray, List.set_cons_zero, List.set_cons_succ]
          go_wp2_with fail
          go_roundg (n - (i + 1))
          case measure => have := HGK.out; have := HIL.out; omega
          case rel =>
            have hok : Ok to [u] := fun q hq => by rw [List.mem_singleton] at hq; rw [hq]; exact HSF.out
            exact ⟨i + 1, l2 ++ [u], rfl, by have := HIL.out; omega, by have := HFI.out; omega, HJ3.out, Room.right (r := [u]) HR2.out hok, fun e W' h => HF2.out e W' (WEnd.pre (c := [u]) hok h)⟩
        · have HX3 := Lib.hid hx3
          clear hx3
          go_wp2_with fail
          refine HKC.out _ _ ?_
          go_upto_region 8 with fail
          refine wp_region_lit ?_
          refine wpList_run (v := .bool false) (wanted_none rfl) (gx_assign rfl rfl) ?_
          simp only [Act.put, List.setIfInBounds_toArray, List.set_cons_zero, List.set_cons_succ]
          go_wp2_with fail
          go_ret
          exact HF2.out _ _ (.inr ⟨rfl, .inr ⟨[u], _, rfl, fun q hq => by rw [List.mem_singleton] at hq; rw [hq]; exact HSF.out, HX3.out⟩⟩)
      · have HTN := Lib.hid (show (!(to == ([] : Key))) = true from by simpa using hto)
        have HST := Lib.hid (stopAt_some hto u)
        clear hto
        refine wpList_run (v := .bool true) (wanted_none rfl) ((exec_sneq (l := to) (m := []) rfl rfl rfl).trans (by rw [HTN.out])) ?_
        simp only [Act.put, List.setIfInBounds_toArray, List.set_cons_zero, List.set_cons_succ]
        refine wpList_run (v := .bool true) (wanted_none rfl) (exec_move rfl rfl) ?_
        simp only [Act.put, List.setIfInBounds_toArray, List.set_cons_zero, List.set_cons_succ]
        refine wpList_run (v := .pointer (some ⟨p, 0, none⟩)) rfl (exec_move rfl rfl) ?_
        simp only [Act.put, List.setIfInBounds_toArray, List.set_cons_zero, List.set_cons_succ]
        refine wpList_run (v := .pointer (some ⟨p, 0, none⟩)) rfl (exec_nil rfl rfl) ?_
        simp only [Act.put, List.setIfInBounds_toArray, List.set_cons_zero, List.set_cons_succ]
        refine wpList_run (v := .pointer (some ⟨p, 0, none⟩)) rfl (exec_field (off := 0) (d := 0) rfl rfl (by kernel_rfl)) ?_
        simp only [Act.put, List.setIfInBounds_toArray, List.set_cons_zero, List.set_cons_succ]
        refine wpList_run (v := .slice (some ⟨bP, 0, none⟩) n cP) rfl (exec_load1 rfl rfl (by kernel_rfl) ((HI2.out.at_ HP.out).blk.cell 0)) ?_
        simp only [Act.put, List.setIfInBounds_toArray, List.set_cons_zero, List.set_cons_succ]
        refine wpList_run (v := .int .i64 (i : Int)) rfl (exec_move rfl rfl) ?_
        simp only [Act.put, List.setIfInBounds_toArray, List.set_cons_zero, List.set_cons_succ]
        refine wpList_run (v := .pointer (some ⟨bP, 0 + i * 2, none⟩)) rfl (gx_iaddr (i := i) (sz := 2) rfl rfl rfl Try.underlying59 size_pair HIL.out rfl) ?_
        simp only [Act.put, List.setIfInBounds_toArray, List.set_cons_zero, List.set_cons_succ]
        refine wpList_run (v := .pointer (some ⟨bP, 0 + i * 2 + 0, none⟩)) rfl (exec_field (off := 0 + i * 2) (d := 0) rfl rfl (by kernel_rfl)) ?_
        simp only [Act.put, List.setIfInBounds_toArray, List.set_cons_zero, List.set_cons_succ]
        refine wpList_run (v := strV u.1) rfl (exec_load1 rfl rfl (by kernel_rfl) ((HI2.out.at_ HP.out).prs.el0 (r := encP u) (by rw [List.getElem?_map, HU.out]; rfl) 0 _ rfl)) ?_
        simp only [Act.put, List.setIfInBounds_toArray, List.set_cons_zero, List.set_cons_succ]
        refine wpList_run (v := strV to) rfl (exec_move rfl rfl) ?_
        simp only [Act.put, List.setIfInBounds_toArray, List.set_cons_zero, List.set_cons_succ]
        cases hb : stopAt to u with
        | false =>
            have HSF := Lib.hid hb
            have HSE := Lib.hid (show (!klt u.1 to) = false from by rw [← HST.out]; exact hb)
            clear hb
            refine wpList_run (v := .bool false) rfl (exec_sgeq rfl rfl rfl HSE.out) ?_
            simp only [Act.put, List.setIfInBounds_toArray, List.set_cons_zero, List.set_cons_succ]
            refine wpList_run (v := .bool false) (wanted_none rfl) (ix_pickT rfl rfl rfl) ?_
            simp only [Act.put, List.setIfInBounds_toArray, List.set_cons_zero, List.set_cons_succ]
            refine wpList_run (v := .bool false) (wanted_none rfl) (exec_move rfl rfl) ?_
            simp only [Act.put, List.setIfInBounds_toArray, List.set_cons_zero, List.set_cons_succ]
            refine wpList_run (v := .func (.func 36) #[] #[.pointer (some ⟨y, 0, none⟩), .pointer (some ⟨x, 0, none⟩), .pointer (some ⟨b, 0, none⟩)]) rfl (exec_move rfl rfl) ?_
            simp only [Act.put, List.setIfInBounds_toArray, List.set_cons_zero, List.set_cons_succ]
            refine wpList_run (v := .pointer (some ⟨p, 0, none⟩)) rfl (exec_move rfl rfl) ?_
            simp only [Act.put, List.setIfInBounds_toArray, List.set_cons_zero, List.set_cons_succ]
            refine wpList_run (v := .pointer (some ⟨p, 0, none⟩)) rfl (exec_nil rfl rfl) ?_
            simp only [Act.put, List.setIfInBounds_toArray, List.set_cons_zero, List.set_cons_succ]
            refine wpList_run (v := .pointer (some ⟨p, 0, none⟩)) rfl (exec_field (off := 0) (d := 0) rfl rfl (by kernel_rfl)) ?_
            simp only [Act.put, List.setIfInBounds_toArray, List.set_cons_zero, List.set_cons_succ]
            refine wpList_run (v := .slice (some ⟨bP, 0, none⟩) n cP) rfl (exec_load1 rfl rfl (by kernel_rfl) ((HI2.out.at_ HP.out).blk.cell 0)) ?_
            simp only [Act.put, List.setIfInBounds_toArray, List.set_cons_zero, List.set_cons_succ]
            refine wpList_run (v := .int .i64 (i : Int)) rfl (exec_move rfl rfl) ?_
            simp only [Act.put, List.setIfInBounds_toArray, List.set_cons_zero, List.set_cons_succ]
            refine wpList_run (v := .pointer (some ⟨bP, 0 + i * 2, none⟩)) rfl (gx_iaddr (i := i) (sz := 2) rfl rfl rfl Try.underlying59 size_pair HIL.out rfl) ?_
            simp only [Act.put, List.setIfInBounds_toArray, List.set_cons_zero, List.set_cons_succ]
            refine wpList_run (v := .agg (encP u).toArray) rfl (gx_loads rfl rfl ((HI2.out.at_ HP.out).prs.el0 (by rw [List.getElem?_map, HU.out]; rfl)) Try.underlying65 rfl (by rw [size_pair]; rfl)) ?_
            simp only [Act.put, List.setIfInBounds_toArray, List.set_cons_zero, List.set_cons_succ]
            have HTL := Lib.hid (HTE.out l2 u _ HJ2.out (HR2.out.head HSF.out))
            refine wpList_op (by go_simp) fun K7 HK7 => ?_
            go_wp2_with fail
            refine HTL.out.mono ?_
            rintro e W3 (⟨rfl, hj3⟩ | ⟨rfl, hx3⟩)
            · refine HK7.out _ _ ?_
              clear HK7
              try simp only [Act.put, List.setIfInBounds_toArray, List.set_cons_zero, List.set_cons_succ]
              have HJ3 := Lib.hid hj3
              clear hj3
              refine wpList_run (v := .bool false) rfl (ix_not (b := true) rfl rfl) ?_
              simp only [Act.put, List.setIfInBounds_toArray, List.set_cons_zero, List.set_cons_succ]
              refine wpList_run (v := .bool false) (wanted_none rfl) (ix_pickF rfl rfl rfl) ?_
              simp only [Act.put, List.setIfInBounds_toArray, List.set_cons_zero, List.set_cons_succ]
              refine wpList_nil ?_
              refine HKC.out _ _ ?_
              go_upto_region 2 with fail
              refine wp_region_lit ?_
              refine wpList_run (v := .int .i64 (i : Int)) (wanted_none rfl) (exec_move rfl rfl) ?_
              simp only [Act.put, List.setIfInBounds_toArray, List.set_cons_zero, List.set_cons_succ]
              refine wpList_run (v := .int .i64 ((i + 1 : Nat) : Int)) (wanted_none rfl) (ix_add rfl rfl rfl (by omega) (by omega)) ?_
              simp only [Act.put, List.setIfInBounds_toArray, List.set_cons_zero, List.set_cons_succ]
              refine wpList_run (v := .int .i64 ((i + 1 : Nat) : Int)) (wanted_none rfl) (gx_assign rfl rfl) ?_
              simp only [Act.put, List.setIfInBounds_toArray, List.set_cons_zero, List.set_cons_succ]
              go_wp2_with fail
              go_roundg (n - (i + 1))
              case measure => have := HGK.out; have := HIL.out; omega
              case rel =>
                have hok : Ok to [u] := fun q hq => by rw [List.mem_singleton] at hq; rw [hq]; exact HSF.out
                exact ⟨i + 1, l2 ++ [u], rfl, by have := HIL.out; omega, by have := HFI.out; omega, HJ3.out, Room.right (r := [u]) HR2.out hok, fun e W' h => HF2.out e W' (WEnd.pre (c := [u]) hok h)⟩
            · refine HK7.out _ _ ?_
              clear HK7
              try simp only [Act.put, List.setIfInBounds_toArray, List.set_cons_zero, List.set_cons_succ]
              have HX3 := Lib.hid hx3
              clear hx3
              refine wpList_run (v := .bool true) rfl (ix_not (b := false) rfl rfl) ?_
              simp only [Act.put, List.setIfInBounds_toArray, List.set_cons_zero, List.set_cons_succ]
              refine wpList_run (v := .bool true) (wanted_none rfl) (ix_pickF rfl rfl rfl) ?_
              simp only [Act.put, List.setIfInBounds_toArray, List.set_cons_zero, List.set_cons_succ]
              refine wpList_nil ?_
              refine HKC.out _ _ ?_
              go_upto_region 8 with fail
              refine wp_region_lit ?_
              refine wpList_run (v := .bool false) (wanted_none rfl) (gx_assign rfl rfl) ?_
              simp only [Act.put, List.setIfInBounds_toArray, List.set_cons_zero, List.set_cons_succ]
              go_wp2_with fail
              go_ret
              exact HF2.out _ _ (.inr ⟨rfl, .inr ⟨[u], _, rfl, fun q hq => by rw [List.mem_singleton] at hq; rw [hq]; exact HSF.out, HX3.out⟩⟩)
        | true =>
            have HSF := Lib.hid hb
            have HSE := Lib.hid (show (!klt u.1 to) = true from by rw [← HST.out]; exact hb)
            clear hb
            refine wpList_run (v := .bool true) rfl (exec_sgeq rfl rfl rfl HSE.out) ?_
            simp only [Act.put, List.setIfInBounds_toArray, List.set_cons_zero, List.set_cons_succ]
            refine wpList_run (v := .bool true) (wanted_none rfl) (ix_pickT rfl rfl rfl) ?_
            simp only [Act.put, List.setIfInBounds_toArray, List.set_cons_zero, List.set_cons_succ]
            refine wpList_run (v := .bool true) (wanted_none rfl) (exec_move rfl rfl) ?_
            simp only [Act.put, List.setIfInBounds_toArray, List.set_cons_zero, List.set_cons_succ]
            go_wp2_with fail
            refine HKC.out _ _ ?_
            go_upto_region 8 with fail
            refine wp_region_lit ?_
            refine wpList_run (v := .bool false) (wanted_none rfl) (gx_assign rfl rfl) ?_
            simp only [Act.put, List.setIfInBounds_toArray, List.set_cons_zero, List.set_cons_succ]
            go_wp2_with fail
            go_ret
            exact HF2.out _ _ (.inr ⟨rfl, .inl ⟨[], u, _, rfl, fun q hq => by simp at hq, HSF.out, by rw [List.append_nil]; exact HJ2.out⟩⟩)
    · have HIE := Lib.hid (show ps.drop i = [] from List.drop_eq_nil_of_le (by rw [← HN.out]; omega))
      rw [HIE.out] at HR2 HF2
      go_upto_region 5 with fail
      refine wp_region_lit ?_
      refine wpList_run (v := .int .i64 (i : Int)) (wanted_none rfl) (exec_move rfl rfl) ?_
      simp only [Act.put, List.setIfInBounds_toArray, List.set_cons_zero, List.set_cons_succ]
      refine wpList_run (v := .pointer (some ⟨p, 0, none⟩)) (wanted_none rfl) (exec_move rfl rfl) ?_
      simp only [Act.put, List.setIfInBounds_toArray, List.set_cons_zero, List.set_cons_succ]
      refine wpList_run (v := .pointer (some ⟨p, 0, none⟩)) (wanted_none rfl) (exec_nil rfl rfl) ?_
      simp only [Act.put, List.setIfInBounds_toArray, List.set_cons_zero, List.set_cons_succ]
      refine wpList_run (v := .pointer (some ⟨p, 0, none⟩)) (wanted_none rfl) (exec_field (off := 0) (d := 0) rfl rfl (by kernel_rfl)) ?_
      simp only [Act.put, List.setIfInBounds_toArray, List.set_cons_zero, List.set_cons_succ]
      refine wpList_run (v := .slice AP n cP) (wanted_none rfl) (exec_load1 rfl rfl (by kernel_rfl) ((HI2.out.at_ HP.out).blk.cell 0)) ?_
      simp only [Act.put, List.setIfInBounds_toArray, List.set_cons_zero, List.set_cons_succ]
      refine wpList_run (v := .int .i64 (n : Int)) (wanted_none rfl) (gx_len rfl rfl Try.underlying59) ?_
      simp only [Act.put, List.setIfInBounds_toArray, List.set_cons_zero, List.set_cons_succ]
      refine wpList_run (v := .bool true) (wanted_none rfl) (ix_eql rfl rfl rfl (decide_eq_true (by omega))) ?_
      simp only [Act.put, List.setIfInBounds_toArray, List.set_cons_zero, List.set_cons_succ]
      go_upto_region 6 with fail
      refine wp_region_lit ?_
      refine wpList_run (v := .bool true) (wanted_none rfl) (gx_assign rfl rfl) ?_
      simp only [Act.put, List.setIfInBounds_toArray, List.set_cons_zero, List.set_cons_succ]
      go_wp2_with fail
      go_ret
      exact HF2.out _ _ (WEnd.nil HJ2.out)
  · rw [show decide (ks = []) = false from decide_eq_false hks] at HW
    obtain ⟨kp, hkp, hkc⟩ := hkid i HFI.out (by rw [← HN.out]; exact HIN2.out)
    have HKP := Lib.hid hkp
    have HKW := Lib.hid (hkc l1 _ HJ.out HR.out.left)
    have hil : i < ks.length := (List.getElem?_eq_some_iff.1 hkp).1
    obtain ⟨bK, cK, e9, _, _⟩ := (HI.out.at_ HP.out).kds.some_ (by rw [List.length_map]; exact Nat.lt_of_le_of_lt (Nat.zero_le _) hil)
    obtain ⟨m, hm⟩ : ∃ n, n = ks.length := ⟨_, rfl⟩
    replace e9 := e9.trans (show _ = Value.slice (some ⟨bK, 0, none⟩) m cK from by rw [List.length_map, hm])
    subst e9
    have HIM := Lib.hid (show i < m by omega)
    clear hks hkid hkp hkc hil hm
    go_upto_region 3 with fail
    rename_i K8 hK8
    have HKB := Lib.hid hK8
    clear hK8
    refine wp_region_lit ?_
    refine wpList_run (v := .pointer (some ⟨p, 0, none⟩)) (wanted_none rfl) (exec_move rfl rfl) ?_
    simp only [Act.put, List.setIfInBounds_toArray, List.set_cons_zero, List.set_cons_succ]
    refine wpList_op (wanted_none rfl) fun K9 HK9 => ?_
    go_wp2_with fail
    refine (HW.out).mono ?_
    rintro e w2 ⟨rfl, hw2⟩
    refine HK9.out _ _ ?_
    clear HK9
    try simp only [Act.put, List.setIfInBounds_toArray, List.set_cons_zero, List.set_cons_succ]
    subst hw2
    refine wpList_run (v := .bool true) (wanted_none rfl) (ix_not (b := false) rfl rfl) ?_
    simp only [Act.put, List.setIfInBounds_toArray, List.set_cons_zero, List.set_cons_succ]
    refine wpList_run (v := .bool true) (wanted_none rfl) (exec_move rfl rfl) ?_
    simp only [Act.put, List.setIfInBounds_toArray, List.set_cons_zero, List.set_cons_succ]
    refine wpList_run (v := .pointer (some ⟨p, 0, none⟩)) rfl (exec_move rfl rfl) ?_
    simp only [Act.put, List.setIfInBounds_toArray, List.set_cons_zero, List.set_cons_succ]
    refine wpList_run (v := .pointer (some ⟨p, 0, none⟩)) rfl (exec_nil rfl rfl) ?_
    simp only [Act.put, List.setIfInBounds_toArray, List.set_cons_zero, List.set_cons_succ]
    refine wpList_run (v := .pointer (some ⟨p, 1, none⟩)) rfl (exec_field (off := 0) (d := 1) rfl rfl (by kernel_rfl)) ?_
    simp only [Act.put, List.setIfInBounds_toArray, List.set_cons_zero, List.set_cons_succ]
    refine wpList_run (v := .slice (some ⟨bK, 0, none⟩) m cK) rfl (exec_load1 rfl rfl (by kernel_rfl) ((HI.out.at_ HP.out).blk.cell 1)) ?_
    simp only [Act.put, List.setIfInBounds_toArray, List.set_cons_zero, List.set_cons_succ]
    refine wpList_run (v := .int .i64 (i : Int)) rfl (exec_move rfl rfl) ?_
    simp only [Act.put, List.setIfInBounds_toArray, List.set_cons_zero, List.set_cons_succ]
    refine wpList_run (v := .pointer (some ⟨bK, 0 + i * 1, none⟩)) rfl (gx_iaddr (i := i) (sz := 1) rfl rfl rfl Try.underlying60 size_ptr HIM.out rfl) ?_
    simp only [Act.put, List.setIfInBounds_toArray, List.set_cons_zero, List.set_cons_succ]
    refine wpList_run (v := .pointer (some ⟨kp, 0, none⟩)) rfl (exec_load1 rfl rfl (by kernel_rfl) (kid_cell (HI.out.at_ HP.out) HKP.out)) ?_
    simp only [Act.put, List.setIfInBounds_toArray, List.set_cons_zero, List.set_cons_succ]
    refine wpList_run (v := strV fr) rfl (exec_move rfl rfl) ?_
    simp only [Act.put, List.setIfInBounds_toArray, List.set_cons_zero, List.set_cons_succ]
    refine wpList_run (v := strV to) rfl (exec_move rfl rfl) ?_
    simp only [Act.put, List.setIfInBounds_toArray, List.set_cons_zero, List.set_cons_succ]
    refine wpList_run (v := .func (.func 36) #[] #[.pointer (some ⟨y, 0, none⟩), .pointer (some ⟨x, 0, none⟩), .pointer (some ⟨b, 0, none⟩)]) rfl (exec_move rfl rfl) ?_
    simp only [Act.put, List.setIfInBounds_toArray, List.set_cons_zero, List.set_cons_succ]
    refine wpList_op (by go_simp) fun K7 HK7 => ?_
    go_wp2_with fail
    refine HKW.out.mono ?_
    rintro e W3 (⟨rfl, hok, hj3⟩ | ⟨rfl, hst⟩)
    · refine HK7.out _ _ ?_
      clear HK7
      try simp only [Act.put, List.setIfInBounds_toArray, List.set_cons_zero, List.set_cons_succ]
      have HJ2 := Lib.hid hj3
      have HR2 := Lib.hid (HR.out.right hok)
      have HF2 := Lib.hid (show ∀ e W', WEnd to J Jx (l1 ++ K i) (tlr K (ps.drop i) i) e W' → WEnd to J Jx l r0 e W' from fun e W' h => HFIN.out e W' (WEnd.pre hok h))
      obtain ⟨l2, hl2⟩ : ∃ l2, l2 = l1 ++ K i := ⟨_, rfl⟩
      rw [← hl2] at HJ2 HR2 HF2
      clear hl2 hok hj3 HKW HI HW
      refine wpList_run (v := .bool false) rfl (ix_not (b := true) rfl rfl) ?_
      simp only [Act.put, List.setIfInBounds_toArray, List.set_cons_zero, List.set_cons_succ]
      refine wpList_run (v := .bool false) (wanted_none rfl) (ix_pickT rfl rfl rfl) ?_
      simp only [Act.put, List.setIfInBounds_toArray, List.set_cons_zero, List.set_cons_succ]
      refine wpList_nil ?_
      refine HKB.out _ _ ?_
      have HI2 := Lib.hid (HIN.out _ _ HJ2.out)
      obtain ⟨AP, cP, e9, _, _, _, _⟩ := (HI2.out.at_ HP.out).prs.form
      rw [List.length_map] at e9
      replace e9 := e9.trans (show _ = Value.slice AP n cP from by rw [HN.out])
      subst e9
      by_cases hin : i < n
      · have y2 : (i : Int) < (n : Int) := by omega
        have HIL := Lib.hid hin
        go_upto_region 5 with fail
        refine wp_region_lit ?_
        refine wpList_run (v := .int .i64 (i : Int)) (wanted_none rfl) (exec_move rfl rfl) ?_
        simp only [Act.put, List.setIfInBounds_toArray, List.set_cons_zero, List.set_cons_succ]
        refine wpList_run (v := .pointer (some ⟨p, 0, none⟩)) (wanted_none rfl) (exec_move rfl rfl) ?_
        simp only [Act.put, List.setIfInBounds_toArray, List.set_cons_zero, List.set_cons_succ]
        refine wpList_run (v := .pointer (some ⟨p, 0, none⟩)) (wanted_none rfl) (exec_nil rfl rfl) ?_
        simp only [Act.put, List.setIfInBounds_toArray, List.set_cons_zero, List.set_cons_succ]
        refine wpList_run (v := .pointer (some ⟨p, 0, none⟩)) (wanted_none rfl) (exec_field (off := 0) (d := 0) rfl rfl (by kernel_rfl)) ?_
        simp only [Act.put, List.setIfInBounds_toArray, List.set_cons_zero, List.set_cons_succ]
        refine wpList_run (v := .slice AP n cP) (wanted_none rfl) (exec_load1 rfl rfl (by kernel_rfl) ((HI2.out.at_ HP.out).blk.cell 0)) ?_
        simp only [Act.put, List.setIfInBounds_toArray, List.set_cons_zero, List.set_cons_succ]
        refine wpList_run (v := .int .i64 (n : Int)) (wanted_none rfl) (gx_len rfl rfl Try.underlying59) ?_
        simp only [Act.put, List.setIfInBounds_toArray, List.set_cons_zero, List.set_cons_succ]
        refine wpList_run (v := .bool false) (wanted_none rfl) (ix_eql rfl rfl rfl (decide_eq_false (by omega))) ?_
        simp only [Act.put, List.setIfInBounds_toArray, List.set_cons_zero, List.set_cons_succ]
        obtain ⟨bP, cP2, e8, _, _⟩ := (HI2.out.at_ HP.out).prs.some_ (by rw [List.length_map, ← HN.out]; omega)
        rw [List.length_map] at e8
        replace e8 := e8.trans (show _ = Value.slice (some ⟨bP, 0, none⟩) n cP2 from by rw [HN.out])
        injection e8 with e5 e6 e7
        subst e5 e7
        obtain ⟨u, hu⟩ : ∃ u, ps[i]? = some u := ⟨_, List.getElem?_eq_getElem (show i < ps.length from by rw [← HN.out]; exact hin)⟩
        have HU := Lib.hid hu
        have HDR := Lib.hid (show ps.drop i = u :: ps.drop (i + 1) from by
          obtain ⟨h1, h2⟩ := List.getElem?_eq_some_iff.1 hu
          rw [List.drop_eq_getElem_cons h1, h2])
        rw [HDR.out] at HR2 HF2
        clear e6 hu hin
        go_upto_region 7 with fail
        rename_i K9 hK9
        have HKC := Lib.hid hK9
        clear hK9
        refine wp_region_lit ?_
        refine wpList_run (v := strV to) (wanted_none rfl) (exec_move rfl rfl) ?_
        simp only [Act.put, List.setIfInBounds_toArray, List.set_cons_zero, List.set_cons_succ]
        by_cases hto : to = []
        · have HSF := Lib.hid (show stopAt to u = false from by rw [hto]; rfl)
          have HTN := Lib.hid (show (!(to == ([] : Key))) = false from by rw [hto]; rfl)
          clear hto
          refine wpList_run (v := .bool false) (wanted_none rfl) ((exec_sneq (l := to) (m := []) rfl rfl rfl).trans (by rw [HTN.out])) ?_
          simp only [Act.put, List.setIfInBounds_toArray, List.set_cons_zero, List.set_cons_succ]
          refine wpList_run (v := .bool false) (wanted_none rfl) (exec_move rfl rfl) ?_
          simp only [Act.put, List.setIfInBounds_toArray, List.set_cons_zero, List.set_cons_succ]
          have hc := node_cell0 (HI2.out.at_ HP.out)
          have hc1 := pair_cell0 (HI2.out.at_ HP.out).prs HU.out
          have hc2 := pair_cell1 (HI2.out.at_ HP.out).prs HU.out
          have HTL := Lib.hid (HTE.out l2 u _ HJ2.out (HR2.out.head HSF.out))
          go_wp2_with fail
          refine HTL.out.mono ?_
          rintro e W3 (⟨rfl, hj3⟩ | ⟨rfl, hx3⟩)
          · have HJ3 := Lib.hid hj3
            clear hj3
            go_wp2_with fail
            refine HKC.out _ _ ?_
            go_upto_region 2 with fail
            refine wp_region_lit ?_
            refine wpList_run (v := .int .i64 (i : Int)) (wanted_none rfl) (exec_move rfl rfl) ?_
            simp only [Act.put, List.setIfInBounds_toArray, List.set_cons_zero, List.set_cons_succ]
            refine wpList_run (v := .int .i64 ((i + 1 : Nat) : Int)) (wanted_none rfl) (ix_add rfl rfl rfl (by omega) (by omega)) ?_
            simp only [Act.put, List.setIfInBounds_toArray, List.set_cons_zero, List.set_cons_succ]
            refine wpList_run (v := .int .i64 ((i + 1 : Nat) : Int)) (wanted_none rfl) (gx_assign rfl rfl) ?_
            simp only [Act.put, List.setIfInBounds_toArray, List.set_cons_zero, List.set_cons_succ]
            go_wp2_with fail
            go_roundg (n - (i + 1))
            case measure => have := HGK.out; have := HIL.out; omega
            case rel =>
              have hok : Ok to [u] := fun q hq => by rw [List.mem_singleton] at hq; rw [hq]; exact HSF.out
              exact ⟨i + 1, l2 ++ [u], rfl, by have := HIL.out; omega, by have := HFI.out; omega, HJ3.out, Room.right (r := [u]) HR2.out hok, fun e W' h => HF2.out e W' (WEnd.pre (c := [u]) hok h)⟩
          · have HX3 := Lib.hid hx3
            clear hx3
            go_wp2_with fail
            refine HKC.out _ _ ?_
            go_upto_region 8 with fail
            refine wp_region_lit ?_
            refine wpList_run (v := .bool false) (wanted_none rfl) (gx_assign rfl rfl) ?_
            simp only [Act.put, List.setIfInBounds_toArray, List.set_cons_zero, List.set_cons_succ]
            go_wp2_with fail
            go_ret
            exact HF2.out _ _ (.inr ⟨rfl, .inr ⟨[u], _, rfl, fun q hq => by rw [List.mem_singleton] at hq; rw [hq]; exact HSF.out, HX3.out⟩⟩)
        · have HTN := Lib.hid (show (!(to == ([] : Key))) = true from by simpa using hto)
          have HST := Lib.hid (stopAt_some hto u)
          clear hto
          refine wpList_run (v := .bool true) (wanted_none rfl) ((exec_sneq (l := to) (m := []) rfl rfl rfl).trans (by rw [HTN.out])) ?_
          simp only [Act.put, List.setIfInBounds_toArray, List.set_cons_zero, List.set_cons_succ]
          refine wpList_run (v := .bool true) (wanted_none rfl) (exec_move rfl rfl) ?_
          simp only [Act.put, List.setIfInBounds_toArray, List.set_cons_zero, List.set_cons_succ]
          refine wpList_run (v := .pointer (some ⟨p, 0, none⟩)) rfl (exec_move rfl rfl) ?_
          simp only [Act.put, List.setIfInBounds_toArray, List.set_cons_zero, List.set_cons_succ]
          refine wpList_run (v := .pointer (some ⟨p, 0, none⟩)) rfl (exec_nil rfl rfl) ?_
          simp only [Act.put, List.setIfInBounds_toArray, List.set_cons_zero, List.set_cons_succ]
          refine wpList_run (v := .pointer (some ⟨p, 0, none⟩)) rfl (exec_field (off := 0) (d := 0) rfl rfl (by kernel_rfl)) ?_
          simp only [Act.put, List.setIfInBounds_toArray, List.set_cons_zero, List.set_cons_succ]
          refine wpList_run (v := .slice (some ⟨bP, 0, none⟩) n cP) rfl (exec_load1 rfl rfl (by kernel_rfl) ((HI2.out.at_ HP.out).blk.cell 0)) ?_
          simp only [Act.put, List.setIfInBounds_toArray, List.set_cons_zero, List.set_cons_succ]
          refine wpList_run (v := .int .i64 (i : Int)) rfl (exec_move rfl rfl) ?_
          simp only [Act.put, List.setIfInBounds_toArray, List.set_cons_zero, List.set_cons_succ]
          refine wpList_run (v := .pointer (some ⟨bP, 0 + i * 2, none⟩)) rfl (gx_iaddr (i := i) (sz := 2) rfl rfl rfl Try.underlying59 size_pair HIL.out rfl) ?_
          simp only [Act.put, List.setIfInBounds_toArray, List.set_cons_zero, List.set_cons_succ]
          refine wpList_run (v := .pointer (some ⟨bP, 0 + i * 2 + 0, none⟩)) rfl (exec_field (off := 0 + i * 2) (d := 0) rfl rfl (by kernel_rfl)) ?_
          simp only [Act.put, List.setIfInBounds_toArray, List.set_cons_zero, List.set_cons_succ]
          refine wpList_run (v := strV u.1) rfl (exec_load1 rfl rfl (by kernel_rfl) ((HI2.out.at_ HP.out).prs.el0 (r := encP u) (by rw [List.getElem?_map, HU.out]; rfl) 0 _ rfl)) ?_
          simp only [Act.put, List.setIfInBounds_toArray, List.set_cons_zero, List.set_cons_succ]
          refine wpList_run (v := strV to) rfl (exec_move rfl rfl) ?_
          simp only [Act.put, List.setIfInBounds_toArray, List.set_cons_zero, List.set_cons_succ]
          cases hb : stopAt to u with
          | false =>
              have HSF := Lib.hid hb
              have HSE := Lib.hid (show (!klt u.1 to) = false from by rw [← HST.out]; exact hb)
              clear hb
              refine wpList_run (v := .bool false) rfl (exec_sgeq rfl rfl rfl HSE.out) ?_
              simp only [Act.put, List.setIfInBounds_toArray, List.set_cons_zero, List.set_cons_succ]
              refine wpList_run (v := .bool false) (wanted_none rfl) (ix_pickT rfl rfl rfl) ?_
              simp only [Act.put, List.setIfInBounds_toArray, List.set_cons_zero, List.set_cons_succ]
              refine wpList_run (v := .bool false) (wanted_none rfl) (exec_move rfl rfl) ?_
              simp only [Act.put, List.setIfInBounds_toArray, List.set_cons_zero, List.set_cons_succ]
              refine wpList_run (v := .func (.func 36) #[] #[.pointer (some ⟨y, 0, none⟩), .pointer (some ⟨x, 0, none⟩), .pointer (some ⟨b, 0, none⟩)]) rfl (exec_move rfl rfl) ?_
              simp only [Act.put, List.setIfInBounds_toArray, List.set_cons_zero, List.set_cons_succ]
              refine wpList_run (v := .pointer (some ⟨p, 0, none⟩)) rfl (exec_move rfl rfl) ?_
              simp only [Act.put, List.setIfInBounds_toArray, List.set_cons_zero, List.set_cons_succ]
              refine wpList_run (v := .pointer (some ⟨p, 0, none⟩)) rfl (exec_nil rfl rfl) ?_
              simp only [Act.put, List.setIfInBounds_toArray, List.set_cons_zero, List.set_cons_succ]
              refine wpList_run (v := .pointer (some ⟨p, 0, none⟩)) rfl (exec_field (off := 0) (d := 0) rfl rfl (by kernel_rfl)) ?_
              simp only [Act.put, List.setIfInBounds_toArray, List.set_cons_zero, List.set_cons_succ]
              refine wpList_run (v := .slice (some ⟨bP, 0, none⟩) n cP) rfl (exec_load1 rfl rfl (by kernel_rfl) ((HI2.out.at_ HP.out).blk.cell 0)) ?_
              simp only [Act.put, List.setIfInBounds_toArray, List.set_cons_zero, List.set_cons_succ]
              refine wpList_run (v := .int .i64 (i : Int)) rfl (exec_move rfl rfl) ?_
              simp only [Act.put, List.setIfInBounds_toArray, List.set_cons_zero, List.set_cons_succ]
              refine wpList_run (v := .pointer (some ⟨bP, 0 + i * 2, none⟩)) rfl (gx_iaddr (i := i) (sz := 2) rfl rfl rfl Try.underlying59 size_pair HIL.out rfl) ?_
              simp only [Act.put, List.setIfInBounds_toArray, List.set_cons_zero, List.set_cons_succ]
              refine wpList_run (v := .agg (encP u).toArray) rfl (gx_loads rfl rfl ((HI2.out.at_ HP.out).prs.el0 (by rw [List.getElem?_map, HU.out]; rfl)) Try.underlying65 rfl (by rw [size_pair]; rfl)) ?_
              simp only [Act.put, List.setIfInBounds_toArray, List.set_cons_zero, List.set_cons_succ]
              have HTL := Lib.hid (HTE.out l2 u _ HJ2.out (HR2.out.head HSF.out))
              refine wpList_op (by go_simp) fun K7 HK7 => ?_
              go_wp2_with fail
              refine HTL.out.mono ?_
              rintro e W3 (⟨rfl, hj3⟩ | ⟨rfl, hx3⟩)
              · refine HK7.out _ _ ?_
                clear HK7
                try simp only [Act.put, List.setIfInBounds_toArray, List.set_cons_zero, List.set_cons_succ]
                have HJ3 := Lib.hid hj3
                clear hj3
                refine wpList_run (v := .bool false) rfl (ix_not (b := true) rfl rfl) ?_
                simp only [Act.put, List.setIfInBounds_toArray, List.set_cons_zero, List.set_cons_succ]
                refine wpList_run (v := .bool false) (wanted_none rfl) (ix_pickF rfl rfl rfl) ?_
                simp only [Act.put, List.setIfInBounds_toArray, List.set_cons_zero, List.set_cons_succ]
                refine wpList_nil ?_
                refine HKC.out _ _ ?_
                go_upto_region 2 with fail
                refine wp_region_lit ?_
                refine wpList_run (v := .int .i64 (i : Int)) (wanted_none rfl) (exec_move rfl rfl) ?_
                simp only [Act.put, List.setIfInBounds_toArray, List.set_cons_zero, List.set_cons_succ]
                refine wpList_run (v := .int .i64 ((i + 1 : Nat) : Int)) (wanted_none rfl) (ix_add rfl rfl rfl (by omega) (by omega)) ?_
                simp only [Act.put, List.setIfInBounds_toArray, List.set_cons_zero, List.set_cons_succ]
                refine wpList_run (v := .int .i64 ((i + 1 : Nat) : Int)) (wanted_none rfl) (gx_assign rfl rfl) ?_
                simp only [Act.put, List.setIfInBounds_toArray, List.set_cons_zero, List.set_cons_succ]
                go_wp2_with fail
                go_roundg (n - (i + 1))
                case measure => have := HGK.out; have := HIL.out; omega
                case rel =>
                  have hok : Ok to [u] := fun q hq => by rw [List.mem_singleton] at hq; rw [hq]; exact HSF.out
                  exact ⟨i + 1, l2 ++ [u], rfl, by have := HIL.out; omega, by have := HFI.out; omega, HJ3.out, Room.right (r := [u]) HR2.out hok, fun e W' h => HF2.out e W' (WEnd.pre (c := [u]) hok h)⟩
              · refine HK7.out _ _ ?_
                clear HK7
                try simp only [Act.put, List.setIfInBounds_toArray, List.set_cons_zero, List.set_cons_succ]
                have HX3 := Lib.hid hx3
                clear hx3
                refine wpList_run (v := .bool true) rfl (ix_not (b := false) rfl rfl) ?_
                simp only [Act.put, List.setIfInBounds_toArray, List.set_cons_zero, List.set_cons_succ]
                refine wpList_run (v := .bool true) (wanted_none rfl) (ix_pickF rfl rfl rfl) ?_
                simp only [Act.put, List.setIfInBounds_toArray, List.set_cons_zero, List.set_cons_succ]
                refine wpList_nil ?_
                refine HKC.out _ _ ?_
                go_upto_region 8 with fail
                refine wp_region_lit ?_
                refine wpList_run (v := .bool false) (wanted_none rfl) (gx_assign rfl rfl) ?_
                simp only [Act.put, List.setIfInBounds_toArray, List.set_cons_zero, List.set_cons_succ]
                go_wp2_with fail
                go_ret
                exact HF2.out _ _ (.inr ⟨rfl, .inr ⟨[u], _, rfl, fun q hq => by rw [List.mem_singleton] at hq; rw [hq]; exact HSF.out, HX3.out⟩⟩)
          | true =>
              have HSF := Lib.hid hb
              have HSE := Lib.hid (show (!klt u.1 to) = true from by rw [← HST.out]; exact hb)
              clear hb
              refine wpList_run (v := .bool true) rfl (exec_sgeq rfl rfl rfl HSE.out) ?_
              simp only [Act.put, List.setIfInBounds_toArray, List.set_cons_zero, List.set_cons_succ]
              refine wpList_run (v := .bool true) (wanted_none rfl) (ix_pickT rfl rfl rfl) ?_
              simp only [Act.put, List.setIfInBounds_toArray, List.set_cons_zero, List.set_cons_succ]
              refine wpList_run (v := .bool true) (wanted_none rfl) (exec_move rfl rfl) ?_
              simp only [Act.put, List.setIfInBounds_toArray, List.set_cons_zero, List.set_cons_succ]
              go_wp2_with fail
              refine HKC.out _ _ ?_
              go_upto_region 8 with fail
              refine wp_region_lit ?_
              refine wpList_run (v := .bool false) (wanted_none rfl) (gx_assign rfl rfl) ?_
              simp only [Act.put, List.setIfInBounds_toArray, List.set_cons_zero, List.set_cons_succ]
              go_wp2_with fail
              go_ret
              exact HF2.out _ _ (.inr ⟨rfl, .inl ⟨[], u, _, rfl, fun q hq => by simp at hq, HSF.out, by rw [List.append_nil]; exact HJ2.out⟩⟩)
      · have HIE := Lib.hid (show ps.drop i = [] from List.drop_eq_nil_of_le (by rw [← HN.out]; omega))
        rw [HIE.out] at HR2 HF2
        go_upto_region 5 with fail
        refine wp_region_lit ?_
        refine wpList_run (v := .int .i64 (i : Int)) (wanted_none rfl) (exec_move rfl rfl) ?_
        simp only [Act.put, List.setIfInBounds_toArray, List.set_cons_zero, List.set_cons_succ]
        refine wpList_run (v := .pointer (some ⟨p, 0, none⟩)) (wanted_none rfl) (exec_move rfl rfl) ?_
        simp only [Act.put, List.setIfInBounds_toArray, List.set_cons_zero, List.set_cons_succ]
        refine wpList_run (v := .pointer (some ⟨p, 0, none⟩)) (wanted_none rfl) (exec_nil rfl rfl) ?_
        simp only [Act.put, List.setIfInBounds_toArray, List.set_cons_zero, List.set_cons_succ]
        refine wpList_run (v := .pointer (some ⟨p, 0, none⟩)) (wanted_none rfl) (exec_field (off := 0) (d := 0) rfl rfl (by kernel_rfl)) ?_
        simp only [Act.put, List.setIfInBounds_toArray, List.set_cons_zero, List.set_cons_succ]
        refine wpList_run (v := .slice AP n cP) (wanted_none rfl) (exec_load1 rfl rfl (by kernel_rfl) ((HI2.out.at_ HP.out).blk.cell 0)) ?_
        simp only [Act.put, List.setIfInBounds_toArray, List.set_cons_zero, List.set_cons_succ]
        refine wpList_run (v := .int .i64 (n : Int)) (wanted_none rfl) (gx_len rfl rfl Try.underlying59) ?_
        simp only [Act.put, List.setIfInBounds_toArray, List.set_cons_zero, List.set_cons_succ]
        refine wpList_run (v := .bool true) (wanted_none rfl) (ix_eql rfl rfl rfl (decide_eq_true (by omega))) ?_
        simp only [Act.put, List.setIfInBounds_toArray, List.set_cons_zero, List.set_cons_succ]
        go_upto_region 6 with fail
        refine wp_region_lit ?_
        refine wpList_run (v := .bool true) (wanted_none rfl) (gx_assign rfl rfl) ?_
        simp only [Act.put, List.setIfInBounds_toArray, List.set_cons_zero, List.set_cons_succ]
        go_wp2_with fail
        go_ret
        exact HF2.out _ _ (WEnd.nil HJ2.out)
    · refine HK7.out _ _ ?_
      clear HK7
      try simp only [Act.put, List.setIfInBounds_toArray, List.set_cons_zero, List.set_cons_succ]
      have HST := Lib.hid hst
      clear hst
      refine wpList_run (v := .bool true) rfl (ix_not (b := false) rfl rfl) ?_
      simp only [Act.put, List.setIfInBounds_toArray, List.set_cons_zero, List.set_cons_succ]
      refine wpList_run (v := .bool true) (wanted_none rfl) (ix_pickT rfl rfl rfl) ?_
      simp only [Act.put, List.setIfInBounds_toArray, List.set_cons_zero, List.set_cons_succ]
      refine wpList_nil ?_
      refine HKB.out _ _ ?_
      go_upto_region 4 with fail
      refine wp_region_lit ?_
      refine wpList_run (v := .bool false) (wanted_none rfl) (gx_assign rfl rfl) ?_
      simp only [Act.put, List.setIfInBounds_toArray, List.set_cons_zero, List.set_cons_succ]
      go_wp2_with fail
      go_ret
      exact HFIN.out _ _ (.inr ⟨rfl, HST.out.app _⟩)
end Go.Proofs.Ytmlkdkbpbleilaa
