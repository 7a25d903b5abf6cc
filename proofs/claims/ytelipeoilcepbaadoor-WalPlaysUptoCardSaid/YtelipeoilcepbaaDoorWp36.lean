/-
  Texts in one file: WmFoA WmFoB LtOf OpW WmCrA. Conditions: the tables and the errors read as the program's text lays them.
-/
import Derived.Test.YtelipeoilcepbaaDoorWp0
import Derived.Test.YtelipeoilcepbaaDoorWp33
import Derived.Test.YtelipeoilcepbaaDoorWp35
import Derived.Test.YtelipeoilcepbaaDoorWp7
import Derived.Test.YtelipeoilcepbaaDoorWp31
namespace Go.Proofs.YtelipeoilcepbaaDoor
open Go.RowKit
open Wl (B8)
set_option linter.unusedVariables false
set_option linter.unusedSimpArgs false
set_option maxRecDepth 20000
theorem size_le {l : Wl.Rec} (h : ∀ x ∈ l, x.length ≤ 1048576) : Wl.size l ≤ l.length * 1048576 := by
  induction l with
  | nil => exact Nat.zero_le _
  | cons x r ih =>
    have h1 := ih fun y hy => h y (List.mem_cons_of_mem _ hy)
    have h2 := h x (List.mem_cons_self ..)
    unfold Wl.size at h1 ⊢
    simp only [List.map_cons, List.sum_cons, List.length_cons]
    omega
instance longDec (l : Wl.Rec) : Decidable (Wl.long l) := by unfold Wl.long; infer_instance
set_option maxRecDepth 20000 in
set_option maxHeartbeats 4000000 in
theorem bytes_walk {w : World} {A : Option Addr} {n c : Nat} {l : Wl.Rec} (h1 : Ls w A n l) :
    Calls Tryd.prog 32 #[.slice A n c] w fun r w' => r = .returned (.int .i64 (Wl.size l : Int)) ∧ w' = w := by
  have HA := Lib.hid h1
  have y1 := h1.2.1
  have HNA := Lib.hid h1.1
  have HTX := Lib.hid (show ∀ x ∈ l, x.length ≤ 1048576 from fun x hx => by
    obtain ⟨i, hi⟩ := List.getElem?_of_mem hx
    obtain ⟨_, _, a, m, q, _, _, hb, _, hm⟩ := ls_at h1 hi
    have := hb.1
    omega)
  clear h1
  go_enter Tryd.func32, Tryd.ntmps32
  go_upto_region 0 with fail
  refine wp_region_lit ?_
  refine nR (.int .i64 0) (gx_assign rfl rfl) ?_;simp only [zz]
  go_upto_region 1 with fail
  refine wp_region_lit ?_
  refine nR (.int .i64 0) (gx_assign rfl rfl) ?_;simp only [zz]
  go_upto_region 2 with fail
  refine wp_region_lit ?_
  refine nR (.int .i64 0) (gx_assign rfl rfl) ?_;simp only [zz]
  go_wp2_with fail
  go_loopg [3, 4] n (fun gk sv iv wr => ∃ i : Nat, iv = .int .i64 (i : Int) ∧ i + gk = n ∧ sv = .int .i64 (Wl.size (l.take i) : Int) ∧ wr = w)
  case atStart => exact ⟨0, rfl, by omega, rfl, rfl⟩
  obtain ⟨i, rfl, hgk, rfl, hw⟩ := hrel
  subst hw
  have HGK := Lib.hid hgk
  have yi : (i : Int) ≤ (n : Int) := by omega
  clear hgk
  obtain ⟨sz, hsz⟩ : ∃ z, z = Wl.size (l.take i) := ⟨_, rfl⟩
  rw [← hsz]
  have HSZ := Lib.hid hsz
  have ysz : sz ≤ i * 1048576 := by
    have h9 := size_le (l := l.take i) fun x hx => HTX.out x (List.mem_of_mem_take hx)
    have h8 : (l.take i).length = i := by rw [List.length_take, HNA.out]; omega
    rw [h8] at h9
    omega
  clear hsz
  by_cases hlt : i < n
  · have HLT := Lib.hid hlt
    have y3 : (i : Int) < (n : Int) := by omega
    obtain ⟨x, hx⟩ : ∃ x, l[i]? = some x := ⟨l[i]'(by rw [HNA.out]; exact hlt), List.getElem?_eq_getElem (by rw [HNA.out]; exact hlt)⟩
    obtain ⟨g1, o1, a1, m1, q1, rfl, hc1, hb1, _, hm1⟩ := ls_at HA.out hx
    have HC1 := Lib.hid hc1
    have hst := size_take hx
    have HST := Lib.hid (show Wl.size (l.take (i + 1)) = sz + m1 from by rw [hst, ← HSZ.out, hb1.1])
    have ym1 := hm1
    clear hlt hc1 hb1 hm1 hx hst
    go_upto_region 3 with fail
    refine wp_region_lit ?_
    refine nR (.int .i64 (i : Int)) (exec_move rfl rfl) ?_;simp only [zz];refine nR (.slice (some ⟨g1, o1, none⟩) n c) (exec_move rfl rfl) ?_;simp only [zz];refine nR (.int .i64 (n : Int)) (gx_len rfl rfl Tryd.underlying33) ?_;simp only [zz];refine nR (.bool true) (ix_lss rfl rfl rfl (decide_eq_true y3)) ?_;simp only [zz]
    go_upto_region 5 with fail
    refine wp_region_lit ?_
    refine nR (.int .i64 (sz : Int)) (exec_move rfl rfl) ?_;simp only [zz];refine nR (.slice (some ⟨g1, o1, none⟩) n c) (exec_move rfl rfl) ?_;simp only [zz];refine nR (.int .i64 (i : Int)) (exec_move rfl rfl) ?_;simp only [zz];refine nR (.pointer (some ⟨g1, o1 + i * 1, none⟩)) (gx_iaddr (i := i) (sz := 1) rfl rfl rfl Tryd.underlying33 size_T8 HLT.out rfl) ?_;simp only [zz];refine nR (.slice a1 m1 q1) (exec_load1 rfl rfl (by kernel_rfl) HC1.out) ?_;simp only [zz];refine nR (.int .i64 (m1 : Int)) (gx_len rfl rfl Tryd.underlying38) ?_;simp only [zz];refine nR (.int .i64 ((sz + m1 : Nat) : Int)) (ix_add rfl rfl rfl (by omega) (by omega)) ?_;simp only [zz];refine nR (.int .i64 ((sz + m1 : Nat) : Int)) (gx_assign rfl rfl) ?_;simp only [zz]
    go_upto_region 4 with fail
    refine wp_region_lit ?_
    refine nR (.int .i64 (i : Int)) (exec_move rfl rfl) ?_;simp only [zz];refine nR (.int .i64 ((i + 1 : Nat) : Int)) (ix_add rfl rfl rfl (by omega) (by omega)) ?_;simp only [zz];refine nR (.int .i64 ((i + 1 : Nat) : Int)) (gx_assign rfl rfl) ?_;simp only [zz]
    go_wp2_with fail
    go_roundg (n - (i + 1))
    case measure => have := HGK.out; have := HLT.out; omega
    case rel => exact ⟨i + 1, rfl, by have := HLT.out; omega, by rw [HST.out], rfl⟩
  · obtain rfl : i = n := by omega
    have y3 : ¬ (i : Int) < (i : Int) := by omega
    have HF := Lib.hid (show Wl.size l = sz from by rw [HSZ.out, List.take_of_length_le (by rw [HNA.out]; exact Nat.le_refl _)])
    clear hlt
    go_upto_region 3 with fail
    refine wp_region_lit ?_
    refine nR (.int .i64 (i : Int)) (exec_move rfl rfl) ?_;simp only [zz];refine nR (.slice A i c) (exec_move rfl rfl) ?_;simp only [zz];refine nR (.int .i64 (i : Int)) (gx_len rfl rfl Tryd.underlying33) ?_;simp only [zz];refine nR (.bool false) (ix_lss rfl rfl rfl (decide_eq_false y3)) ?_;simp only [zz]
    go_upto_region 6 with fail
    refine wp_region_lit ?_
    refine nR (.int .i64 (sz : Int)) (exec_move rfl rfl) ?_;simp only [zz];refine nR (.int .i64 (sz : Int)) (gx_assign rfl rfl) ?_;simp only [zz]
    go_wp2_with fail
    go_ret
    rw [HF.out]
    exact ⟨rfl, rfl⟩
set_option maxRecDepth 20000 in
set_option maxHeartbeats 4000000 in
theorem long_walk {w : World} {A : Option Addr} {n c : Nat} {l : Wl.Rec} (h1 : Ls w A n l) :
    Calls Tryd.prog 9 #[.slice A n c] w fun r w' => r = .returned (.bool (decide (Wl.long l))) ∧ w' = w := by
  have HA := Lib.hid h1
  have y1 := h1.2.1
  have HNA := Lib.hid h1.1
  clear h1
  go_enter Tryd.func9, Tryd.ntmps9
  go_upto_region 0 with fail
  refine wp_region_lit ?_
  refine nR (.bool false) (gx_assign rfl rfl) ?_;simp only [zz]
  by_cases h16 : 16 < n
  · have HF := Lib.hid (show decide (Wl.long l) = true from decide_eq_true (.inl (by rw [HNA.out]; exact h16)))
    have y2 : 16 < (n : Int) := by omega
    clear h16
    go_upto_region 1 with fail
    refine wp_region_lit ?_
    refine nR (.slice A n c) (exec_move rfl rfl) ?_;simp only [zz];refine nR (.int .i64 (n : Int)) (gx_len rfl rfl Tryd.underlying33) ?_;simp only [zz];refine nR (.bool true) (ix_gtr rfl rfl rfl (decide_eq_true y2)) ?_;simp only [zz];refine nR (.bool true) (exec_move rfl rfl) ?_;simp only [zz];refine wpList_skip (by go_simp) ?_;simp only [zz];refine wpList_skip (by go_simp) ?_;simp only [zz];refine wpList_skip (by go_simp) ?_;simp only [zz];refine nR (.bool true) (ix_pickT rfl rfl rfl) ?_;simp only [zz];refine nR (.bool true) (gx_assign rfl rfl) ?_;simp only [zz]
    go_wp2_with fail
    go_ret
    rw [HF.out]
    exact ⟨rfl, rfl⟩
  · have HF := Lib.hid (show decide (Wl.long l) = decide (2048 < (Wl.size l : Int)) from decide_eq_decide.2 (by
      unfold Wl.long
      have := HNA.out
      omega))
    have y2 : ¬ 16 < (n : Int) := by omega
    clear h16
    go_upto_region 1 with fail
    refine wp_region_lit ?_
    refine nR (.slice A n c) (exec_move rfl rfl) ?_;simp only [zz];refine nR (.int .i64 (n : Int)) (gx_len rfl rfl Tryd.underlying33) ?_;simp only [zz];refine nR (.bool false) (ix_gtr rfl rfl rfl (decide_eq_false y2)) ?_;simp only [zz];refine nR (.bool false) (exec_move rfl rfl) ?_;simp only [zz];refine wpList_run (v := .slice A n c) rfl (exec_move rfl rfl) ?_;simp only [zz]
    refine wpList_op (by go_simp) fun K9 HK9 => ?_
    go_wp2_with fail
    refine (bytes_walk (c := c) HA.out).mono ?_
    rintro e w ⟨rfl, rfl⟩
    refine HK9.out _ _ ?_
    clear HK9
    try simp only [zz]
    refine wpList_run (v := .bool (decide (2048 < (Wl.size l : Int)))) rfl (ix_gtr rfl rfl rfl rfl) ?_;simp only [zz];refine nR (.bool (decide (2048 < (Wl.size l : Int)))) (ix_pickF rfl rfl rfl) ?_;simp only [zz];refine nR (.bool (decide (2048 < (Wl.size l : Int)))) (gx_assign rfl rfl) ?_;simp only [zz]
    go_wp2_with fail
    go_ret
    rw [HF.out]
    exact ⟨rfl, rfl⟩
end Go.Proofs.YtelipeoilcepbaaDoor
namespace Go.Proofs.YtelipeoilcepbaaDoor
open Go.RowKit
open Wl (B8 Gp)
set_option linter.unusedVariables false
set_option linter.unusedSimpArgs false
set_option maxRecDepth 20000
section
variable {w wr w' : World} {p x b S f B : Nat} {n : Int} {L L2 G : List Wl.Rec} {φ : Int → Prop} {u : Value} {l : Wl.Rec}
end
end Go.Proofs.YtelipeoilcepbaaDoor
namespace Go.Proofs.YtelipeoilcepbaaDoor
open Go.RowKit Go.ChangeShapes Go.WideShapes Go.Deep
set_option linter.unusedVariables false
section
variable {H : Type} {enc : TypeId × Value → H} {P : Program} {w : World} {base : Nat} {spare : Nat → Bool} {held : Bool}
theorem open_rwsP {α : Type} {t e : TypeId} {fuel k by_ : Nat} {v : Value} {x : DataW H × List MemPlace} (ht : P.underlying t = some (.slice e)) (hC : P.cellsOf e = k) (hk : 0 < k) (hby : P.bytesOf e = by_) (hb1 : 1 ≤ by_) (en : α → List Value) (Q : α → Prop) (d0 : α) (hen : ∀ x, (en x).length = k)
    (Pd : DataW H → Prop) (dec : ∀ n cs y, DataW.trod enc P w base spare held n e cs = some y → (∀ q ∈ y.1.weights P e, q ≤ reachBytes) → Pd y.1 → ∃ x : α, cs = en x ∧ Q x) (h : DataW.trod enc P w base spare held fuel t [v] = some x) (hw : ∀ q ∈ x.1.weights P t, q ≤ reachBytes) (hPd : ∀ D E, x.1 = .slice D E → ∀ d ∈ D, Pd d) :
    ∃ (A : Option Addr) (n c : Nat) (xs : List α), v = .slice A n c ∧ Rws w k A n (xs.map en) ∧ n ≤ c ∧ (A = none → c = 0) ∧ n * by_ ≤ reachBytes ∧ (∀ x ∈ xs, Q x) ∧ (x.1 = .nil ∧ n = 0 ∨ ∃ D E, x.1 = .slice D E ∧ D.length = n) := by
  rcases open_slice ht h with ⟨h0, hx0⟩ | ⟨a, len, cap, m, n, D, Pl, hcs, hb, hl, hm, hmm, rfl, hi⟩
  · injection h0 with h0
    exact ⟨none, 0, 0, [], h0, rws_nil w k none, Nat.le_refl _, fun _ => rfl, by omega, fun x hx => (by cases hx), .inl ⟨by rw [hx0], rfl⟩⟩
  · injection hcs with hcs
    have hlm : len ≤ m := by rw [hmm]; split <;> omega
    have hb2 : len * by_ ≤ reachBytes := by
      have := hw ((((List.range len).map D).length + ((List.range (m - len)).map fun j => D (len + j)).length) * P.bytesOf e) (by
        unfold DataW.weights
        simp only [ht]
        exact List.mem_cons_self ..)
      rw [hby] at this
      simp only [List.length_map, List.length_range] at this
      have h3 : len * by_ ≤ (len + (m - len)) * by_ := Nat.mul_le_mul_right _ (by omega)
      omega
    have hwt : ∀ i, i < len → ∀ q ∈ (D i).weights P e, q ≤ reachBytes := by
      intro i hi' q hq
      refine hw q ?_
      unfold DataW.weights
      simp only [ht]
      exact List.mem_cons_of_mem _ (List.mem_append_left _ (weights_all (List.mem_map.2 ⟨i, List.mem_range.2 hi', rfl⟩) hq))
    have hpd : ∀ i, i < len → Pd (D i) := fun i hi' => hPd _ _ rfl (D i) (List.mem_map.2 ⟨i, List.mem_range.2 hi', rfl⟩)
    have hn : len ≤ 140737488355328 := by
      have h1 := reachBytes_lt
      have h2 : len * 1 ≤ len * by_ := Nat.mul_le_mul_left _ hb1
      omega
    rw [hC] at hi
    have one : ∀ i, ∃ x : α, i < len → w.cells? base (a.add (i * k)) k = some (en x) ∧ Q x := by
      intro i
      by_cases him : i < len
      · obtain ⟨cs, hc, ht'⟩ := hi i (by omega)
        obtain ⟨x, rfl, hq⟩ := dec _ _ _ ht' (hwt i him) (hpd i him)
        exact ⟨x, fun _ => ⟨hc, hq⟩⟩
      · exact ⟨d0, fun h => absurd h him⟩
    obtain ⟨F, hF⟩ := Classical.axiomOfChoice one
    refine ⟨some a, len, cap, (List.range len).map F, hcs, ⟨by simp, fun r hr => ?_, hn, fun hp => ?_⟩, hl, (fun h => by cases h), hb2, fun x hx => ?_, .inr ⟨_, _, rfl, by simp⟩⟩
    · obtain ⟨x, _, rfl⟩ := List.mem_map.1 hr
      exact hen x
    · have hall : ∀ i, i < len → ∀ j v, (en (F i))[j]? = some v → w.cell? (a.add (i * k + j)) = some v := by
        intro i him j v hv
        obtain ⟨_, hcl, hat⟩ := World.cells?_some (hF i him).1
        have hj : j < k := by
          have := (List.getElem?_eq_some_iff.1 hv).1
          rwa [hen] at this
        have := hat j hj
        rw [hv] at this
        rw [← this, Go.Deep.add_add]
      obtain ⟨b, off, spot⟩ := a
      have hv0 : (en (F 0))[0]? = some ((en (F 0))[0]'(by rw [hen]; exact hk)) := List.getElem?_eq_getElem _
      have hc0 := hall 0 (by omega) 0 _ hv0
      have hspot : spot = none := by simpa [Addr.add] using World.cell?_spot hc0
      subst hspot
      refine ⟨b, off, rfl, fun i r hr j v hv => ?_⟩
      have hil : i < len := by
        have := (List.getElem?_eq_some_iff.1 hr).1
        simpa using this
      have hre : r = en (F i) := by
        rw [List.getElem?_map, List.getElem?_map, List.getElem?_range hil] at hr
        exact (Option.some.inj hr).symm
      subst hre
      have := hall i (by omega) j v hv
      rw [add_nat] at this
      rw [Nat.add_assoc]
      exact this
    · obtain ⟨i, hi', rfl⟩ := List.mem_map.1 hx
      exact (hF i (List.mem_range.1 hi')).2
end
theorem bulk_mem2 {H : Type} {d : DataW H} : ∀ {l : List (DataW H)}, d ∈ l → Rows.uptoBulk d ≤ Rows.uptoBulkAll l
  | [], h => by cases h
  | e :: r, h => by
    simp only [Rows.uptoBulkAll]
    rcases List.mem_cons.1 h with rfl | h
    · omega
    · have := bulk_mem2 h
      omega
structure LtV where
  A : Option Addr
  n : Nat
  c : Nat
  l : List (List UInt8)
section
variable {H : Type} {enc : TypeId × Value → H} {W : World} {base : Nat} {held : Bool}
end
end Go.Proofs.YtelipeoilcepbaaDoor
namespace Go.Proofs.YtelipeoilcepbaaDoor
open Go.RowKit Go.ChangeShapes Go.WideShapes Go.Deep
set_option linter.unusedVariables false
section
variable {H : Type} {enc : TypeId × Value → H} {P : Program} {w : World} {base : Nat} {spare : Nat → Bool} {held : Bool}
theorem open_fldsB {e : TypeId} {fs : Array Go.Field} {n : Nat} {cs : List Value} {y : DataW H × List MemPlace} (he : P.underlying e = some (.struct fs)) (hone : oneCellFields P fs = true) (hC : P.cellsOf e = fs.size) (h : DataW.trod enc P w base spare held n e cs = some y) :
    cs.length = fs.size ∧ ∃ m : Nat, ∀ (j : Nat) (f : Go.Field), fs[j]? = some f → ∃ (c : Value) (z : DataW H × List MemPlace), cs[j]? = some c ∧ DataW.trod enc P w base spare held m f.type [c] = some z ∧ (∀ q ∈ z.1.weights P f.type, q ∈ y.1.weights P e) ∧ Rows.uptoBulk z.1 ≤ Rows.uptoBulk y.1 := by
  obtain ⟨ys, m, _, hy0, hl, hlen, hf⟩ := DataW.trod_struct he h
  rw [hC] at hl
  refine ⟨hl, m, fun j f hj => ?_⟩
  obtain ⟨ho, hk⟩ := hone_of hone j f hj
  have hjl : j < fs.size := (Array.getElem?_eq_some_iff.1 hj).1
  have h1 := hf j f hj
  rw [ho, hk, List.drop_eq_getElem_cons (by omega)] at h1
  have hy : ys[j]? = some (ys[j]'(by omega)) := List.getElem?_eq_getElem (by omega)
  have h2 : DataW.trod enc P w base spare held m f.type [cs[j]'(by omega)] = ys[j]? := h1
  refine ⟨cs[j]'(by omega), ys[j]'(by omega), List.getElem?_eq_getElem (by omega), by rw [h2, hy], fun q hq => ?_, ?_⟩
  · rw [hy0]
    unfold DataW.weights
    simp only [he]
    exact DataW.weights_mem_each (j := j) (t := f.type) (by simp [hj]) (by rw [List.getElem?_map, hy]; rfl) q hq
  · rw [hy0]
    simp only [Rows.uptoBulk]
    have := bulk_mem2 (d := (ys[j]'(by omega)).1) (l := ys.map (·.1)) (List.mem_map.2 ⟨_, List.getElem_mem _, rfl⟩)
    omega
end
structure OpV where
  kd : Int
  n : Int
  L : LtV
  K : IrV
def OpV.cells (o : OpV) : List Value := [.int .i64 o.kd, .int .i64 o.n, .slice o.L.A o.L.n o.L.c, .slice o.K.A o.K.n o.K.c]
structure OpV.okay (w : World) (o : OpV) : Prop where
  kd : -9223372036854775808 ≤ o.kd ∧ o.kd ≤ 9223372036854775807
  n : -9223372036854775808 ≤ o.n ∧ o.n ≤ 9223372036854775807
  L : Ls w o.L.A o.L.n o.L.l
  K : Ks w nowhere o.K.A o.K.n o.K.zs
theorem OpV.okay.still {w w' : World} {o : OpV} (h : o.okay w) (ht : Turn nowhere w w') : o.okay w' := ⟨h.kd, h.n, h.L.still ht, ks_turn h.K ht⟩
structure OwAt (w : World) (A : Option Addr) (n : Nat) (os : List OpV) : Prop where
  row : Rws w 4 A n (os.map OpV.cells)
  ok : ∀ o ∈ os, o.okay w
theorem OwAt.still {w w' : World} {A : Option Addr} {n : Nat} {os : List OpV} (h : OwAt w A n os) (ht : Turn nowhere w w') : OwAt w' A n os := ⟨h.row.still ht, fun v hv => (h.ok v hv).still ht⟩
theorem OwAt.len {w : World} {A : Option Addr} {n : Nat} {os : List OpV} (h : OwAt w A n os) : os.length = n := by
  have := h.row.1
  rwa [List.length_map] at this
theorem OwAt.at_ {w : World} {A : Option Addr} {n : Nat} {os : List OpV} (h : OwAt w A n os) {i : Nat} {o : OpV} (ho : os[i]? = some o) : ∃ b off, A = some ⟨b, off, none⟩ ∧ w.rangeAt b (off + i * 4) o.cells := by
  obtain ⟨b, off, hA, hc⟩ := h.row.at_ (i := i) (r := o.cells) (by rw [List.getElem?_map, ho]; rfl)
  exact ⟨b, off, hA, fun j v hv => hc j v hv⟩
section
variable {H : Type} {enc : TypeId × Value → H} {W : World} {base : Nat} {held : Bool}
set_option maxRecDepth 20000 in
theorem owops_of {fuel : Nat} {v : Value} {x : DataW H × List MemPlace} (h : DataW.trod enc Tryd.prog W base (fun _ => true) held fuel 22 [v] = some x) (hw : ∀ q ∈ x.1.weights Tryd.prog 22, q ≤ reachBytes) (hk : Rows.uptoBulk x.1 ≤ 1048576) :
    ∃ (A : Option Addr) (n c : Nat) (os : List OpV), v = .slice A n c ∧ OwAt W A n os := by
  obtain ⟨A, n, c, vs, h1, h2, h3, h4, h5, h6, h7⟩ := open_rwsP (by_ := 64) Tryd.underlying22 (k := 4) (by kernel_rfl) (by decide) (by kernel_rfl) (by decide) OpV.cells (fun o => o.okay W) ⟨0, 0, ⟨none, 0, 0, []⟩, ⟨none, 0, 0, []⟩⟩ (fun _ => rfl) (fun d => Rows.uptoBulk d ≤ 1048576) (fun n cs y hy hwy hpy => by
    obtain ⟨hl, m, hf⟩ := open_fldsB Tryd.underlying36 (by kernel_rfl) (by kernel_rfl) hy
    obtain ⟨c0, z0, e0, t0, _, _⟩ := hf 0 _ rfl
    obtain ⟨c1, z1, e1, t1, _, _⟩ := hf 1 _ rfl
    obtain ⟨c2, z2, e2, t2, _, q2⟩ := hf 2 _ rfl
    obtain ⟨c3, z3, e3, t3, q3, _⟩ := hf 3 _ rfl
    obtain ⟨x0, g0, _, w0⟩ := DataW.trod_int Tryd.underlying3 t0
    obtain ⟨x1, g1, _, w1⟩ := DataW.trod_int Tryd.underlying3 t1
    injection g0 with g0
    injection g1 with g1
    subst g0 g1
    obtain ⟨L, hL, hLs⟩ : ∃ L : LtV, c2 = .slice L.A L.n L.c ∧ Ls W L.A L.n L.l := by
      rcases open_ls t2 (Nat.le_trans q2 hpy) with g | ⟨a, len, cap, ls, g, hl⟩
      · injection g with g
        exact ⟨⟨none, 0, 0, []⟩, g, ls_nil _ _⟩
      · injection g with g
        exact ⟨⟨some a, len, cap, ls⟩, g, hl⟩
    obtain ⟨Ak, nk, ck, zs, g3, hK, _, _⟩ := ksB_of t3 (fun q hq => hwy _ (q3 q hq))
    subst hL g3
    refine ⟨⟨x0, x1, L, ⟨Ak, nk, ck, zs⟩⟩, ?_, ⟨i64_in w0, i64_in w1, hLs, hK⟩⟩
    have hl4 : cs.length = 4 := hl
    match cs, hl4 with
    | [a, b, c, d], _ =>
      cases e0
      cases e1
      cases e2
      cases e3
      rfl) h hw (fun D E e d hd => by
      rw [e] at hk
      simp only [Rows.uptoBulk] at hk
      have := bulk_mem2 hd
      omega)
  exact ⟨A, n, c, vs, h1, ⟨h2, h6⟩⟩
end
end Go.Proofs.YtelipeoilcepbaaDoor
namespace Go.Proofs.YtelipeoilcepbaaDoor
open Go.RowKit
open Wl (B8 Gp)
set_option linter.unusedVariables false
set_option linter.unusedSimpArgs false
set_option maxRecDepth 20000
abbrev Rs := World → (Nat → Prop) → Prop
abbrev Dp := Wl.Disk → Prop
abbrev Bo := Nat × Nat × List Wl.Rec
def Bks (wr : World) (B : Nat) (Z : Nat → Prop) (bs : List Bo) : Prop := ∀ e ∈ bs, Bk wr e.1 e.2.1 e.2.2 Z ∧ e.2.1 + e.2.2.length ≤ B
def Cs (w wr : World) (B : Nat) (bs : List Bo) (R : Rs) : Prop := ∃ G Z : Nat → Prop, R wr G ∧ (∀ k, G k → w.heap.size ≤ k ∧ k < wr.heap.size) ∧ (∀ k, Z k → k < wr.heap.size ∧ ¬ G k) ∧ Bks wr B Z bs
def Rn (p x S : Nat) (n : Int) (f B : Nat) (L : List Wl.Rec) : Rs := fun w G => ∃ (F : Nat → Prop) (s : AP) (K : Nat) (d : AD) (v : WalV) (vP vH : Value) (gs : List Gp), G = (fun k => F k ∨ WalG x vP vH k) ∧ Lg w x p 0 F s K d S v vP vH L gs ∧ Dry s.ds ∧ v.first = f ∧ f + L.length ≤ B ∧ 1 ≤ v.age ∧ v.age ≤ B + 2 ∧ K ≤ 100000 * (B + 1) ∧ d.n = n
section
variable {w wr w' : World} {p x S f B : Nat} {n : Int} {L : List Wl.Rec} {bs : List Bo} {R R' : Rs} {c : Prop} {D E : Dp} {G G' Z : Nat → Prop}
theorem Bks.turn (h : Bks w B Z bs) (ht : Turn G w w') (hz : ∀ k, Z k → k < w.heap.size → ¬ G k) {C : Nat} (hC : B ≤ C) : Bks w' C Z bs := fun e he => ⟨(h e he).1.turn ht hz, Nat.le_trans (h e he).2 hC⟩
theorem Cs.still (hst : ∀ w w' G, R w G → Turn nowhere w w' → R w' G) (h : Cs w wr B bs R) (ht : Turn nowhere wr w') : Cs w w' B bs R := by
  obtain ⟨G, Z, h1, h2, h3, h4⟩ := h
  exact ⟨G, Z, hst _ _ _ h1 ht, fun k hk => ⟨(h2 k hk).1, Nat.lt_of_lt_of_le (h2 k hk).2 ht.size⟩, fun k hk => ⟨Nat.lt_of_lt_of_le (h3 k hk).1 ht.size, (h3 k hk).2⟩, h4.turn ht (fun _ _ _ e => e) (Nat.le_refl _)⟩
theorem Cs.imp (h : Cs w wr B bs R) (hr : ∀ G, R wr G → R' wr G) {C : Nat} (hC : B ≤ C) : Cs w wr C bs R' := by
  obtain ⟨G, Z, h1, h2, h3, h4⟩ := h
  exact ⟨G, Z, hr _ h1, h2, h3, fun e he => ⟨(h4 e he).1, Nat.le_trans (h4 e he).2 hC⟩⟩
theorem Cs.sub (h : Cs w wr B bs R) {cs : List Bo} (hs : ∀ e ∈ cs, e ∈ bs) : Cs w wr B cs R := by
  obtain ⟨G, Z, h1, h2, h3, h4⟩ := h
  exact ⟨G, Z, h1, h2, h3, fun e he => h4 e (hs e he)⟩
theorem cs_lift (hw : Turn nowhere w wr) (hG : ∀ k, G k → w.heap.size ≤ k ∧ k < wr.heap.size) (hZ : ∀ k, Z k → k < wr.heap.size ∧ ¬ G k) (hb : Bks wr B Z bs) (ht : Turn G wr w') (hG' : ∀ k, G' k → G k ∨ wr.heap.size ≤ k) (hlt : ∀ k, G' k → k < w'.heap.size) (hR : R' w' G') {C : Nat} (hC : B ≤ C) : Turn nowhere w w' ∧ Cs w w' C bs R' := by
  have hz := hw.size
  refine ⟨hw.trans ht fun k hk e => by have := (hG k e).1; omega, G', Z, hR, fun k hk => ⟨?_, hlt k hk⟩, fun k hk => ⟨Nat.lt_of_lt_of_le (hZ k hk).1 ht.size, fun e => ?_⟩, hb.turn ht (fun k hk _ => (hZ k hk).2) hC⟩
  · rcases hG' k hk with e | e
    · exact (hG k e).1
    · omega
  · rcases hG' k e with e | e
    · exact (hZ k hk).2 e
    · have := (hZ k hk).1
      omega
theorem Rn.lt (h : Rn p x S n f B L w G) : ∀ k, G k → k < w.heap.size := by
  obtain ⟨F, s, K, d, v, vP, vH, gs, rfl, h1, _⟩ := h
  exact fun k hk => hk.elim (fun e => h1.pt.lt e) (fun e => h1.glt e)
theorem Cs.with_ (hst : ∀ w w' G, R w G → Turn nowhere w w' → R w' G) (h : Cs w wr B bs R) (hw : Turn nowhere w wr) {b : Nat} (hm : (b, f, L) ∈ bs) (hL : L.length ≤ 1000) {A : Option Addr} {m cap : Nat} {l : Wl.Rec} (hl : Ls wr A m l) :
    Calls Tryd.prog 12 #[.pointer (some ⟨b, 0, none⟩), .slice A m cap] wr fun r w' => Turn nowhere w w' ∧ ∃ b', r = .returned (.pointer (some ⟨b', 0, none⟩)) ∧ Cs w w' (B + 1) ((b', f, L ++ [l]) :: bs) R := by
  obtain ⟨G, Z, h1, h2, h3, h4⟩ := h
  obtain ⟨g1, g2⟩ := h4 _ hm
  refine (with_walk (c0 := cap) g1 hl hL).mono ?_
  rintro r w' ⟨b', rfl, hb, ht⟩
  refine ⟨hw.trans ht fun _ _ e => e, b', rfl, G, capZ (fun k => Z k ∨ wr.heap.size ≤ k) w'.heap.size, hst _ _ _ h1 ht, fun k hk => ⟨(h2 k hk).1, Nat.lt_of_lt_of_le (h2 k hk).2 ht.size⟩, fun k hk => ⟨hk.2, fun e => ?_⟩, fun e he => ?_⟩
  · rcases hk.1 with a | a
    · exact (h3 k a).2 e
    · have := (h2 k e).2
      omega
  · rcases List.mem_cons.1 he with rfl | he
    · refine ⟨hb.cap, ?_⟩
      show f + (L ++ [l]).length ≤ B + 1
      rw [List.length_append]
      show f + (L.length + 1) ≤ _
      have : f + L.length ≤ B := g2
      omega
    · exact ⟨(((h4 e he).1.still ht).mono fun k hk => .inl hk).cap, Nat.le_succ_of_le (h4 e he).2⟩
theorem Cs.new_ (hst : ∀ w w' G, R w G → Turn nowhere w w' → R w' G) (h : Cs w wr B bs R) {b : Nat} (ht : Turn nowhere wr w') (hb : wr.heap.size ≤ b) (hblk : Blk w' b 32 #[.int .i64 0, .slice none 0 0]) : Cs w w' B ((b, 0, []) :: bs) R := by
  obtain ⟨G, Z, h1, h2, h3, h4⟩ := h
  refine ⟨G, capZ (fun k => Z k ∨ wr.heap.size ≤ k) w'.heap.size, hst _ _ _ h1 ht, fun k hk => ⟨(h2 k hk).1, Nat.lt_of_lt_of_le (h2 k hk).2 ht.size⟩, fun k hk => ⟨hk.2, fun e => ?_⟩, fun e he => ?_⟩
  · rcases hk.1 with a | a
    · exact (h3 k a).2 e
    · have := (h2 k e).2
      omega
  · rcases List.mem_cons.1 he with rfl | he
    · exact ⟨(show Bk w' b 0 [] (fun k => Z k ∨ wr.heap.size ≤ k) from ⟨_, hblk, gsz_nil _ _, .inr hb⟩).cap, Nat.zero_le _⟩
    · exact ⟨(((h4 e he).1.still ht).mono fun k hk => .inl hk).cap, (h4 e he).2⟩
theorem Cs.like {b f' : Nat} {L' : List Wl.Rec} (h : Cs w wr B bs (Rn p x S n f B L)) (hB : B ≤ 100000) (hm : (b, f', L') ∈ bs) :
    Calls Tryd.prog 19 #[.pointer (some ⟨b, 0, none⟩), .pointer (some ⟨x, 0, none⟩)] wr fun r w' => r = .returned (.bool (decide (f = f' ∧ L = L'))) ∧ Turn nowhere wr w' := by
  obtain ⟨G, Z, ⟨F, s, K, d, v, vP, vH, gs, rfl, h1, h2, h3, h4, h5, h6, h7, h8⟩, hG, hZ, hb⟩ := h
  obtain ⟨g1, g2⟩ := hb _ hm
  have g2 : f' + L'.length ≤ B := g2
  have := like_walk h1 g1 (by omega) (by show f' + L'.length < _; omega)
  rw [h3] at this
  exact this
theorem Cs.bnext {b f' : Nat} {L' : List Wl.Rec} (h : Cs w wr B bs R) (hB : B ≤ 100000) (hm : (b, f', L') ∈ bs) :
    Calls Tryd.prog 11 #[.pointer (some ⟨b, 0, none⟩)] wr fun r w' => r = .returned (.int .i64 ((f' + L'.length : Nat) : Int)) ∧ Turn nowhere wr w' := by
  obtain ⟨G, Z, h1, h2, h3, h4⟩ := h
  obtain ⟨g1, g2⟩ := h4 _ hm
  have g2 : f' + L'.length ≤ B := g2
  exact bnext_walk g1 (by omega)
theorem Cs.bk {b f' : Nat} {L' : List Wl.Rec} (h : Cs w wr B bs R) (hm : (b, f', L') ∈ bs) : (∃ Z, Bk wr b f' L' Z) ∧ f' + L'.length ≤ B := by
  obtain ⟨G, Z, h1, h2, h3, h4⟩ := h
  exact ⟨⟨Z, (h4 _ hm).1⟩, (h4 _ hm).2⟩
theorem Cs.size (h : Cs w wr B bs (Rn p x S n f B L)) : f + L.length ≤ B := by
  obtain ⟨G, Z, ⟨F, s, K, d, v, vP, vH, gs, rfl, h1, h2, h3, h4, _⟩, _⟩ := h
  exact h4
end
end Go.Proofs.YtelipeoilcepbaaDoor
