/-
  Texts in one file: WlT. Conditions: the tables and the errors read as the program's text lays them.
-/
import Derived.Test.YtelipeoilcepbaaDoorWp0
import Derived.Test.YtelipeoilcepbaaDoorWp17
namespace Go.Proofs.YtelipeoilcepbaaDoor
open Go.RowKit
open Wl (B8)
set_option linter.unusedVariables false
set_option linter.unusedSimpArgs false
set_option maxRecDepth 20000
theorem gx_minI {a : Act} {o : Oper} {W : World} {x y : Operand} {t u : TypeId} {i j r : Int} (ho : o.op = .call { callee := .builtin .min, args := #[x, y], argTypes := #[t, u] }) (hx : a.eval x = .int .i64 i) (hy : a.eval y = .int .i64 j) (hr : (if j < i then j else i) = r) : (execOp a.eval o).run Tryd.prog W = .ok (.value (.int .i64 r)) W := by
  subst hr
  unfold execOp
  simp only [ho, resolve, invoke, builtin, Sem.run_bind, Sem.run_pure, Result.andThen_ok, List.map_toArray, List.map_cons, List.map_nil, hx, hy, run_min_int2]
def segsN (n : Int) : Nat := if n < 258 then 0 else min ((n - 2).toNat / 64) 1024
def segsP (s : AP) (dev : Int) : Nat := if 0 ≤ dev then (match s.ds[dev.toNat]? with | none => 0 | some d => segsN d.n) else 0
theorem segsP_at {s : AP} {i : Nat} {d : AD} (h : s.ds[i]? = some d) : segsP s i = segsN d.n := by
  unfold segsP
  rw [if_pos (by omega), show ((i : Int)).toNat = i by omega, h]
theorem segsP_bad {s : AP} {dev : Int} (h : ¬ (0 ≤ dev ∧ dev < s.ds.length)) : segsP s dev = 0 := by
  unfold segsP
  by_cases h0 : 0 ≤ dev
  · rw [if_pos h0, List.getElem?_eq_none (by omega)]
  · rw [if_neg h0]
def dskV (p : Nat) (dev : Int) : Array Value := #[.pointer (some ⟨p, 0, none⟩), .int .i64 dev]
theorem box_dskV (p : Nat) (dev : Int) (w : World) : (Instr.box 60 (.agg (dskV p dev))).run Tryd.prog w = .ok (.pointer (some ⟨w.heap.size, 0, none⟩)) (w.alloc (.cells (dskV p dev) 60)) := by
  simp [Instr.box, newVar, newRow, Result.andThen, Value.cells]
set_option maxRecDepth 20000 in
set_option maxHeartbeats 4000000 in
theorem segments_walk {w : World} {p : Nat} {F : Nat → Prop} {s : AP} {K : Nat} (h : PlantAt w p F s K) (dev : Int) :
    Calls Tryd.prog 36 #[.agg (dskV p dev)] w fun r w' => r = .returned (.int .i64 ((segsP s dev : Nat) : Int)) ∧ Turn nowhere w w' := by
  have HPL := Lib.hid h
  go_enter Tryd.func36, Tryd.ntmps36
  go_upto_region 0 with fail
  refine wp_region_lit ?_
  refine wpList_run (v := .pointer (some ⟨(w).heap.size, 0, none⟩)) (w' := (w).alloc (.cells (dskV p dev) 60)) (wanted_none rfl) (gx_box rfl rfl (box_dskV p dev _)) ?_;simp only [zz];refine nR (.int .i64 0) (gx_assign rfl rfl) ?_;simp only [zz]
  have hb_k := Blk.new (w) 60 (dskV p dev)
  have ht_ := (Turn.refl nowhere (w)).alloc (.cells (dskV p dev) 60)
  obtain ⟨n0_, hn0_⟩ : ∃ n, n = (w).heap.size := ⟨_, rfl⟩
  have hz_k : (w).heap.size = n0_ + 0 := by rw [hn0_]; simp
  obtain ⟨k, hg_⟩ : ∃ g, g = (w).heap.size := ⟨_, rfl⟩
  rw [← hg_] at hb_k hz_k ⊢
  clear hg_
  generalize (w).alloc (.cells (dskV p dev) 60) = w1 at *
  have HT1 := Lib.hid ht_
  clear ht_
  have HBk := Lib.hid hb_k
  have HLk := Lib.hid (show (w).heap.size ≤ k from by omega)
  clear hb_k
  clear hn0_ hz_k
  clear n0_
  go_upto_region 1 with fail
  refine wp_region_lit ?_
  refine nR (.pointer (some ⟨k, 0, none⟩)) (exec_field (off := 0) (d := 0) rfl rfl (by kernel_rfl)) ?_;simp only [zz];refine nR (.pointer (some ⟨p, 0, none⟩)) (exec_load1 rfl rfl (by kernel_rfl) (HBk.out.cell 0)) ?_;simp only [zz];refine nR (.pointer (some ⟨k, 1, none⟩)) (exec_field (off := 0) (d := 1) rfl rfl (by kernel_rfl)) ?_;simp only [zz];refine nR (.int .i64 dev) (exec_load1 rfl rfl (by kernel_rfl) (HBk.out.cell 1)) ?_;simp only [zz]
  by_cases hin : 0 ≤ dev ∧ dev < s.ds.length
  · obtain ⟨i, rfl⟩ := Int.eq_ofNat_of_zero_le hin.1
    obtain ⟨d, hd⟩ : ∃ d, s.ds[i]? = some d := ⟨_, List.getElem?_eq_getElem (by omega)⟩
    have HS := Lib.hid (segsP_at hd)
    have hdn := h.dn hd
    have HSN := Lib.hid (show segsN d.n = if d.n < 258 then 0 else min ((d.n - 2).toNat / 64) 1024 from rfl)
    refine wpList_op rfl fun K9 HK9 => ?_
    go_wp2_with fail
    refine (lenP_good (HPL.out.turn HT1.out fun _ _ e => e) i d hd).mono ?_
    rintro e w1 ⟨rfl, rfl⟩
    refine HK9.out _ _ ?_
    clear HK9
    try simp only [zz]
    refine nR (.tuple #[.int .i64 d.n, .int .i64 0]) (exec_move rfl rfl) ?_;simp only [zz];refine nR (.int .i64 d.n) (ix_extract rfl rfl rfl) ?_;simp only [zz];refine nR (.int .i64 0) (ix_extract rfl rfl rfl) ?_;simp only [zz];refine nR (.int .i64 d.n) (gx_assign rfl rfl) ?_;simp only [zz];refine nR (.int .i64 0) (gx_assign rfl rfl) ?_;simp only [zz]
    obtain ⟨n, hn⟩ := Int.eq_ofNat_of_zero_le (show 0 ≤ d.n by omega)
    rw [hn] at HSN HS hdn ⊢
    clear hn
    by_cases hs : n < 258
    · go_upto_region 2 with fail
      refine wp_region_lit ?_
      refine nR (.int .i64 0) (exec_move rfl rfl) ?_;simp only [zz];refine nR (.bool false) (ix_neq rfl rfl rfl (by decide)) ?_;simp only [zz];refine nR (.bool false) (exec_move rfl rfl) ?_;simp only [zz];refine wpList_run (v := .int .i64 (n : Int)) rfl (exec_move rfl rfl) ?_;simp only [zz];refine wpList_run (v := .bool true) rfl (ix_lss rfl rfl rfl (decide_eq_true (by omega))) ?_;simp only [zz];refine nR (.bool true) (ix_pickF rfl rfl rfl) ?_;simp only [zz]
      go_upto_region 3 with fail
      refine wp_region_lit ?_
      refine nR (.int .i64 0) (gx_assign rfl rfl) ?_;simp only [zz]
      go_wp2_with fail
      go_ret
      exact ⟨by rw [HS.out, HSN.out, if_pos (by omega)]; rfl, HT1.out⟩
    · go_upto_region 2 with fail
      refine wp_region_lit ?_
      refine nR (.int .i64 0) (exec_move rfl rfl) ?_;simp only [zz];refine nR (.bool false) (ix_neq rfl rfl rfl (by decide)) ?_;simp only [zz];refine nR (.bool false) (exec_move rfl rfl) ?_;simp only [zz];refine wpList_run (v := .int .i64 (n : Int)) rfl (exec_move rfl rfl) ?_;simp only [zz];refine wpList_run (v := .bool false) rfl (ix_lss rfl rfl rfl (decide_eq_false (by omega))) ?_;simp only [zz];refine nR (.bool false) (ix_pickF rfl rfl rfl) ?_;simp only [zz]
      go_upto_region 4 with fail
      refine wp_region_lit ?_
      refine nR (.int .i64 (n : Int)) (exec_move rfl rfl) ?_;simp only [zz];refine nR (.int .i64 ((n - 2 : Nat) : Int)) (ix_sub rfl rfl rfl (by omega) (by omega)) ?_;simp only [zz];refine nR (.int .i64 (((n - 2) / 64 : Nat) : Int)) (wx_q64 rfl rfl (by omega) rfl) ?_;simp only [zz];refine nR (.int .i64 ((min ((n - 2) / 64) 1024 : Nat) : Int)) (gx_minI rfl rfl rfl (by split <;> omega)) ?_;simp only [zz];refine nR (.int .i64 ((min ((n - 2) / 64) 1024 : Nat) : Int)) (gx_assign rfl rfl) ?_;simp only [zz]
      go_wp2_with fail
      go_ret
      exact ⟨by rw [HS.out, HSN.out, if_neg (by omega), show ((n : Int) - 2).toNat = n - 2 by omega]; rfl, HT1.out⟩
  · have HS := Lib.hid (segsP_bad hin)
    refine wpList_op rfl fun K9 HK9 => ?_
    go_wp2_with fail
    refine (lenP_bad (HPL.out.turn HT1.out fun _ _ e => e) dev hin).mono ?_
    rintro e w1 ⟨rfl, rfl⟩
    refine HK9.out _ _ ?_
    clear HK9
    try simp only [zz]
    refine nR (.tuple #[.int .i64 0, .int .i64 31]) (exec_move rfl rfl) ?_;simp only [zz];refine nR (.int .i64 0) (ix_extract rfl rfl rfl) ?_;simp only [zz];refine nR (.int .i64 31) (ix_extract rfl rfl rfl) ?_;simp only [zz];refine nR (.int .i64 0) (gx_assign rfl rfl) ?_;simp only [zz];refine nR (.int .i64 31) (gx_assign rfl rfl) ?_;simp only [zz]
    go_upto_region 2 with fail
    first
    | (rename_i K9 hK9; have HKC := Lib.hid hK9; clear hK9)
    | (rename_i K9 hK9 K8; have HKC := Lib.hid hK9; clear hK9)
    refine wp_region_lit ?_
    refine nR (.int .i64 31) (exec_move rfl rfl) ?_;simp only [zz];refine nR (.bool true) (ix_neq rfl rfl rfl (by decide)) ?_;simp only [zz];refine nR (.bool true) (exec_move rfl rfl) ?_;simp only [zz]
    go_wp2_with fail
    refine HKC.out _ _ ?_
    clear HKC
    go_upto_region 3 with fail
    refine wp_region_lit ?_
    refine nR (.int .i64 0) (gx_assign rfl rfl) ?_;simp only [zz]
    go_wp2_with fail
    go_ret
    exact ⟨by rw [HS.out]; rfl, HT1.out⟩
def wput (d : AD) (st place : Int) (b : Sec) : AD := { d with ws := d.ws ++ [(st, place, b)] }
theorem dk_put (d : AD) (st : Int) (q : Nat) (b : Sec) : dkD (wput d st (q : Int) b) = fun k => if k = q then b.1 else dkD d k := by
  funext k
  unfold dkD AD.read reads wput
  rw [show lastW (d.ws ++ [(st, ((q : Nat) : Int), b)]) = upd (lastW d.ws) ((q : Nat) : Int) b from lastW_snoc _ _]
  unfold upd
  by_cases h : k = q
  · subst h; simp
  · rw [if_neg (by omega), if_neg h]
def wflush (d : AD) : AD := { d with fl := over (lastW d.ws) d.fl, ws := [] }
theorem dk_flush (d : AD) : dkD (wflush d) = dkD d := by
  funext k
  show (reads (lastW []) (over (lastW d.ws) d.fl) (k : Int)).1 = (reads (lastW d.ws) d.fl (k : Int)).1
  unfold reads over lastW
  simp only [List.foldl_nil]
  cases (d.ws.foldl (fun f x => upd f x.2.1 x.2.2) fun _ => none) (k : Int) <;> rfl
structure Wrote (N : Wl.Disk) (d d' : AD) : Prop where
  n : d'.n = d.n
  fl : d'.fl = d.fl
  ws : ∀ x ∈ d'.ws, x ∈ d.ws ∨ ∃ q : Nat, x.2.1 = (q : Int) ∧ x.2.2.1 = N q
theorem Wrote.refl (N : Wl.Disk) (d : AD) : Wrote N d d := ⟨rfl, rfl, fun x h => .inl h⟩
theorem Wrote.put {N : Wl.Disk} {d d' : AD} (h : Wrote N d d') (st : Int) {q : Nat} {b : Sec} (hb : b.1 = N q) : Wrote N d (wput d' st (q : Int) b) := ⟨h.n, h.fl, fun x hx => by
  rcases List.mem_append.1 hx with hx | hx
  · exact h.ws x hx
  · rw [List.mem_singleton.1 hx]; exact .inr ⟨q, rfl, hb⟩⟩
def WLaid (N : Wl.Disk) (i : Nat) (d : AD) (s : AP) (e : Int) (s' : AP) : Prop :=
  (e = 0 ∧ s.on = true ∧ s'.on = true ∧ ((s.fuse < 0 → s'.fuse = s.fuse) ∧ s.fuse ≠ 0) ∧ ∃ d', s'.ds = s.ds.set i d' ∧ d'.n = d.n ∧ d'.ws = [] ∧ dkD d' = N) ∨
  (e = 2 ∧ s'.on = false ∧ (s.fuse < 0 → s.on = false) ∧ ∃ d', s'.ds = s.ds.set i d' ∧ Wrote N d d' ∧ (s.fuse = 0 → d' = d))
end Go.Proofs.YtelipeoilcepbaaDoor
